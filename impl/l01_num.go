package impl

import (
	"strconv"
	"strings"
)

const MaxVarint = 562949953421311

const maxWidth = 7

// maxVarintBytes is what MaxVarint takes: 49 bits in groups of 7.
const maxVarintBytes = 7

const maxDigits = 9

const hexDigits = "0123456789abcdef"

func EncodeFixed(n int, width int) string {
	if !isWidth(width) || n < 0 || n>>(8*width) != 0 {
		return ""
	}
	out := make([]byte, width)
	for i := width - 1; i >= 0; i-- {
		out[i] = byte(n)
		n >>= 8
	}
	return string(out)
}

func DecodeFixed(s string, width int) (int, bool) {
	if !isWidth(width) || len(s) < width {
		return 0, false
	}
	n := 0
	for i := 0; i < width; i++ {
		n = n<<8 | int(s[i])
	}
	return n, true
}

func isWidth(width int) bool { return width >= 1 && width <= maxWidth }

func EncodeVarint(n int) string {
	if n < 0 || n > MaxVarint {
		return ""
	}
	var out []byte
	for n >= 128 {
		out = append(out, byte(n%128+128))
		n /= 128
	}
	return string(append(out, byte(n)))
}

func DecodeVarint(s string) (int, int) {
	n := 0
	for i := 0; i < len(s) && i < maxVarintBytes; i++ {
		n |= int(s[i]&127) << (7 * i)
		if s[i] >= 128 {
			continue
		}
		// Encoding again rejects unnecessary bytes at the end.
		if EncodeVarint(n) != s[:i+1] {
			return 0, 0
		}
		return n, i + 1
	}
	return 0, 0
}

func EncodeHex(s string) string {
	out := make([]byte, 0, 2*len(s))
	// By bytes: a range over s would merge several bytes into one rune.
	for i := 0; i < len(s); i++ {
		out = append(out, hexDigits[s[i]/16], hexDigits[s[i]%16])
	}
	return string(out)
}

func DecodeHex(s string) (string, bool) {
	if len(s)%2 != 0 {
		return "", false
	}
	out := make([]byte, len(s)/2)
	// By runes: a rune of several bytes is no digit, so up to the first
	// one that is rejected, i counts the digits.
	for i, r := range s {
		digit, ok := hexValue(r)
		if !ok {
			return "", false
		}
		out[i/2] = out[i/2]*16 + digit
	}
	return string(out), true
}

func hexValue(r rune) (byte, bool) {
	switch {
	case isDigit(r):
		return byte(r - '0'), true
	case r >= 'a' && r <= 'f':
		return byte(r-'a') + 10, true
	}
	return 0, false
}

func isDigit(r rune) bool { return r >= '0' && r <= '9' }

func FormatInt(n int) string { return strconv.Itoa(n) }

func ParseInt(s string) (int, bool) {
	digits, negative := strings.CutPrefix(s, "-")
	if len(digits) > maxDigits {
		return 0, false
	}
	n := 0
	for _, r := range digits {
		if !isDigit(r) {
			return 0, false
		}
		n = n*10 + int(r-'0')
	}
	if negative {
		n = -n
	}
	// Formatting again rejects no digits, leading zeros and -0.
	if FormatInt(n) != s {
		return 0, false
	}
	return n, true
}
