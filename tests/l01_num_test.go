package tests

import (
	"encoding/binary"
	"encoding/hex"
	"math"
	"math/big"
	"regexp"
	"strconv"
	"strings"
	"testing"

	"loop.example/g01986/impl"
)

// followers stand behind an encoding; no decoder of prefixes may look at them.
var followers = []string{"", "\x00", "\x01", "\x7f", "\x80", "\xff", "\x80\x00", "\xff\xff\xff\xff\xff\xff\xff\xff\xff", "é", "0123456789"}

var badWidths = []int{math.MinInt, -8, -1, 0, 8, 9, 16, 64, math.MaxInt}

// limitsOf returns 0, 1 and, for each power of two up to 2^62, the numbers around it.
func limitsOf() []int {
	l := []int{0, 1}
	for bit := 1; bit <= 62; bit++ {
		l = append(l, 1<<bit-1, 1<<bit, 1<<bit+1)
	}
	return append(l, math.MaxInt)
}

// allStrings calls visit with every string of at most length elements of the alphabet.
func allStrings(alphabet []string, length int, visit func(string)) {
	var extend func(s string, left int)
	extend = func(s string, left int) {
		visit(s)
		if left == 0 {
			return
		}
		for _, a := range alphabet {
			extend(s+a, left-1)
		}
	}
	extend("", length)
}

// fixedOf is an independent statement of EncodeFixed.
func fixedOf(n int, width int) string {
	if width < 1 || width > 7 || n < 0 {
		return ""
	}
	limit := new(big.Int).Exp(big.NewInt(256), big.NewInt(int64(width)), nil)
	if big.NewInt(int64(n)).Cmp(limit) >= 0 {
		return ""
	}
	all := binary.BigEndian.AppendUint64(nil, uint64(n))
	return string(all[8-width:])
}

func TestEncodeFixed(t *testing.T) {
	for _, c := range []struct {
		n, width int
		want     string
	}{
		{258, 2, "\x01\x02"},
		{0, 1, "\x00"},
		{255, 1, "\xff"},
		{256, 1, ""},
		{65535, 2, "\xff\xff"},
		{65536, 2, ""},
		{65536, 3, "\x01\x00\x00"},
		{0, 7, "\x00\x00\x00\x00\x00\x00\x00"},
		{1, 7, "\x00\x00\x00\x00\x00\x00\x01"},
		{72057594037927935, 7, "\xff\xff\xff\xff\xff\xff\xff"},
		{72057594037927936, 7, ""},
		{math.MaxInt, 7, ""},
	} {
		if got := impl.EncodeFixed(c.n, c.width); got != c.want {
			t.Errorf("EncodeFixed(%d, %d) = %q, want %q", c.n, c.width, got, c.want)
		}
	}
	for _, n := range limitsOf() {
		for width := -1; width <= 9; width++ {
			if got, want := impl.EncodeFixed(n, width), fixedOf(n, width); got != want {
				t.Errorf("EncodeFixed(%d, %d) = %q, want %q", n, width, got, want)
			}
		}
	}
}

func TestEncodeFixedRefuses(t *testing.T) {
	for _, width := range badWidths {
		for _, n := range []int{math.MinInt, -1, 0, 1, math.MaxInt} {
			if got := impl.EncodeFixed(n, width); got != "" {
				t.Errorf("EncodeFixed(%d, %d) = %q for a width out of range", n, width, got)
			}
		}
	}
	for width := 1; width <= 7; width++ {
		for _, n := range []int{math.MinInt, math.MinInt + 1, -1 << 56, -256, -1} {
			if got := impl.EncodeFixed(n, width); got != "" {
				t.Errorf("EncodeFixed(%d, %d) = %q for a negative number", n, width, got)
			}
		}
	}
}

func TestDecodeFixed(t *testing.T) {
	for _, c := range []struct {
		s     string
		width int
		want  int
	}{
		{"\x01\x02\x03", 1, 1},
		{"\x01\x02\x03", 2, 258},
		{"\x01\x02\x03", 3, 66051},
		{"\xff", 1, 255},
		{"\x00", 1, 0},
		{"\xff\xff\xff\xff\xff\xff\xff", 7, 72057594037927935},
		{"\x80\x00\x00\x00\x00\x00\x00", 7, 36028797018963968},
		{"\x00\x00\x00\x00\x00\x00\x01\x05", 7, 1},
	} {
		if got, ok := impl.DecodeFixed(c.s, c.width); got != c.want || !ok {
			t.Errorf("DecodeFixed(%q, %d) = %d, %v, want %d", c.s, c.width, got, ok, c.want)
		}
	}
}

func TestDecodeFixedRefuses(t *testing.T) {
	long := "\x01\x02\x03\x04\x05\x06\x07\x08\x09\x0a"
	for _, width := range badWidths {
		for _, s := range []string{"", "\x00", long} {
			if n, ok := impl.DecodeFixed(s, width); n != 0 || ok {
				t.Errorf("DecodeFixed(%q, %d) = %d, %v for a width out of range", s, width, n, ok)
			}
		}
	}
	for width := 1; width <= 7; width++ {
		for length := 0; length < width; length++ {
			if n, ok := impl.DecodeFixed(long[:length], width); n != 0 || ok {
				t.Errorf("DecodeFixed(%q, %d) = %d, %v for a string cut off", long[:length], width, n, ok)
			}
		}
	}
}

func TestFixedRoundTrip(t *testing.T) {
	for _, n := range limitsOf() {
		for width := 1; width <= 7; width++ {
			s := impl.EncodeFixed(n, width)
			if s == "" {
				continue
			}
			for _, f := range followers {
				if got, ok := impl.DecodeFixed(s+f, width); got != n || !ok {
					t.Errorf("DecodeFixed(%q, %d) = %d, %v, want %d", s+f, width, got, ok, n)
				}
			}
		}
	}
	allStrings([]string{"\x00", "\x01", "\x7f", "\x80", "\xff"}, 7, func(s string) {
		if s == "" {
			return
		}
		n, ok := impl.DecodeFixed(s, len(s))
		if again := impl.EncodeFixed(n, len(s)); !ok || again != s {
			t.Fatalf("DecodeFixed(%q, %d) = %d, %v, encoded again %q", s, len(s), n, ok, again)
		}
	})
}

func TestEncodeVarint(t *testing.T) {
	for _, c := range []struct {
		n    int
		want string
	}{
		{0, "\x00"},
		{1, "\x01"},
		{127, "\x7f"},
		{128, "\x80\x01"},
		{300, "\xac\x02"},
		{16383, "\xff\x7f"},
		{16384, "\x80\x80\x01"},
		{impl.MaxVarint, "\xff\xff\xff\xff\xff\xff\x7f"},
		{impl.MaxVarint + 1, ""},
		{math.MaxInt, ""},
		{-1, ""},
		{-128, ""},
		{math.MinInt, ""},
	} {
		if got := impl.EncodeVarint(c.n); got != c.want {
			t.Errorf("EncodeVarint(%d) = %q, want %q", c.n, got, c.want)
		}
	}
	for _, n := range limitsOf() {
		want := ""
		if n <= 562949953421311 {
			want = string(binary.AppendUvarint(nil, uint64(n)))
		}
		if got := impl.EncodeVarint(n); got != want {
			t.Errorf("EncodeVarint(%d) = %q, want %q", n, got, want)
		}
	}
}

func TestDecodeVarint(t *testing.T) {
	for _, c := range []struct {
		s         string
		n, length int
		why       string
	}{
		{"\x00", 0, 1, "the least number"},
		{"\x00\x00", 0, 1, "two numbers"},
		{"\x7f", 127, 1, "the greatest one of one byte"},
		{"\x80\x01", 128, 2, "the least one of two bytes"},
		{"\xac\x02", 300, 2, "the example"},
		{"\xac\x02z", 300, 2, "the example and something else"},
		{"\xff\xff\xff\xff\xff\xff\x7f", impl.MaxVarint, 7, "the greatest number"},
		{"\xff\xff\xff\xff\xff\xff\x7f\x80", impl.MaxVarint, 7, "the greatest number and something else"},
	} {
		if n, length := impl.DecodeVarint(c.s); n != c.n || length != c.length {
			t.Errorf("%s: DecodeVarint(%q) = %d, %d, want %d, %d", c.why, c.s, n, length, c.n, c.length)
		}
	}
}

func TestDecodeVarintRefuses(t *testing.T) {
	for _, c := range []struct{ why, s string }{
		{"empty", ""},
		{"cut off", "\x80"},
		{"cut off", "\xac"},
		{"cut off", "\xff\xff\xff\xff\xff\xff"},
		{"unnecessary bytes", "\x80\x00"},
		{"unnecessary bytes", "\x81\x00"},
		{"unnecessary bytes", "\xff\x00"},
		{"unnecessary bytes", "\xac\x82\x00"},
		{"unnecessary bytes", "\x80\x80\x00"},
		{"unnecessary bytes", "\xff\xff\xff\xff\xff\xff\x00"},
		{"unnecessary bytes", "\xff\xff\xff\xff\xff\xff\xff\x00"},
		{"unnecessary bytes before a varint", "\x80\x00\x05"},
		{"one beyond the greatest", "\x80\x80\x80\x80\x80\x80\x80\x01"},
		{"far too great", "\xff\xff\xff\xff\xff\xff\xff\xff\x7f"},
		{"no end", strings.Repeat("\xff", 1000)},
		{"beyond 64 bits", strings.Repeat("\x80", 10) + "\x01"},
		{"beyond 64 bits", "\x81" + strings.Repeat("\x80", 63) + "\x01"},
	} {
		if n, length := impl.DecodeVarint(c.s); n != 0 || length != 0 {
			t.Errorf("%s: DecodeVarint(%q) = %d, %d", c.why, c.s, n, length)
		}
	}
}

func TestVarintRoundTrip(t *testing.T) {
	l := limitsOf()
	for n := 0; n < 70000; n++ {
		l = append(l, n)
	}
	for _, n := range l {
		if n > impl.MaxVarint {
			continue
		}
		s := impl.EncodeVarint(n)
		for _, f := range followers {
			if got, length := impl.DecodeVarint(s + f); got != n || length != len(s) {
				t.Fatalf("DecodeVarint(%q) = %d, %d, want %d, %d", s+f, got, length, n, len(s))
			}
		}
		for cut := 0; cut < len(s); cut++ {
			if got, length := impl.DecodeVarint(s[:cut]); got != 0 || length != 0 {
				t.Fatalf("cut off: DecodeVarint(%q) = %d, %d", s[:cut], got, length)
			}
		}
	}
}

// TestDecodeVarintAcceptsNothingElse holds all short strings and many long ones against encoding/binary.
func TestDecodeVarintAcceptsNothingElse(t *testing.T) {
	check := func(s string) {
		wantN, wantLength := 0, 0
		v, k := binary.Uvarint([]byte(s))
		if k > 0 && v <= 562949953421311 && string(binary.AppendUvarint(nil, v)) == s[:k] {
			wantN, wantLength = int(v), k
		}
		if n, length := impl.DecodeVarint(s); n != wantN || length != wantLength {
			t.Fatalf("DecodeVarint(%q) = %d, %d, want %d, %d", s, n, length, wantN, wantLength)
		}
	}
	for a := 0; a < 256; a++ {
		check(string([]byte{byte(a)}))
		for b := 0; b < 256; b++ {
			check(string([]byte{byte(a), byte(b)}))
			check(string([]byte{0x80, byte(a), byte(b)}))
		}
	}
	allStrings([]string{"\x00", "\x01", "\x7f", "\x80", "\xff"}, 8, check)
}

func TestEncodeHex(t *testing.T) {
	for _, c := range []struct{ s, want string }{
		{"", ""},
		{"a\xff", "61ff"},
		{"\x00", "00"},
		{"\x0f\xf0", "0ff0"},
		{"\x9a\xa9", "9aa9"},
		{"é", "c3a9"},
		{"\xc3", "c3"},
	} {
		if got := impl.EncodeHex(c.s); got != c.want {
			t.Errorf("EncodeHex(%q) = %q, want %q", c.s, got, c.want)
		}
	}
	for a := 0; a < 256; a++ {
		for b := 0; b < 256; b++ {
			s := string([]byte{byte(a), byte(b)})
			if got, want := impl.EncodeHex(s), hex.EncodeToString([]byte(s)); got != want {
				t.Fatalf("EncodeHex(%q) = %q, want %q", s, got, want)
			}
		}
	}
}

// TestDecodeHexAcceptsNothingElse tries each pair of bytes, alone and behind a valid pair.
func TestDecodeHexAcceptsNothingElse(t *testing.T) {
	digits := "0123456789abcdef"
	for a := 0; a < 256; a++ {
		for b := 0; b < 256; b++ {
			pair := string([]byte{byte(a), byte(b)})
			high, low := strings.IndexByte(digits, byte(a)), strings.IndexByte(digits, byte(b))
			want, wantOk := "", false
			if high >= 0 && low >= 0 {
				want, wantOk = string([]byte{byte(high*16 + low)}), true
			}
			if got, ok := impl.DecodeHex(pair); got != want || ok != wantOk {
				t.Fatalf("DecodeHex(%q) = %q, %v, want %q, %v", pair, got, ok, want, wantOk)
			}
			if wantOk {
				want = "\xff" + want
			}
			if got, ok := impl.DecodeHex("ff" + pair); got != want || ok != wantOk {
				t.Fatalf("DecodeHex(%q) = %q, %v, want %q, %v", "ff"+pair, got, ok, want, wantOk)
			}
		}
	}
}

func TestDecodeHexRefuses(t *testing.T) {
	for _, c := range []struct{ why, s string }{
		{"odd", "6"},
		{"odd", "61f"},
		{"odd", "0000000"},
		{"capital", "6F"},
		{"capital", "F6"},
		{"capital", "61FF"},
		{"capital at the end", "61ffaB"},
		{"no digit", "0x61"},
		{"no digit", "6g"},
		{"no digit", " 61 "},
		{"no digit", "61\n\n"},
		{"no digit", "-1"},
		{"digits of another script", "\u0661\u0662"},
		{"wide digits", "\uff10\uff11"},
		{"a rune of two bytes", "61é"},
		{"a rune of two bytes between digits", "6é1"},
		{"no valid text", "\xff\xfe"},
	} {
		if got, ok := impl.DecodeHex(c.s); got != "" || ok {
			t.Errorf("%s: DecodeHex(%q) = %q, %v", c.why, c.s, got, ok)
		}
	}
}

func TestHexRoundTrip(t *testing.T) {
	all := make([]byte, 256)
	for i := range all {
		all[i] = byte(i)
	}
	for _, s := range append([]string{"a", "text", "naïve", strings.Repeat("\xff\x00", 500), string(all)}, followers...) {
		if got, ok := impl.DecodeHex(impl.EncodeHex(s)); got != s || !ok {
			t.Errorf("DecodeHex(EncodeHex(%q)) = %q, %v", s, got, ok)
		}
		for _, f := range followers {
			if got, ok := impl.DecodeHex(impl.EncodeHex(s) + impl.EncodeHex(f)); got != s+f || !ok {
				t.Errorf("DecodeHex of %q and %q = %q, %v", s, f, got, ok)
			}
		}
	}
}

func TestFormatInt(t *testing.T) {
	for _, c := range []struct {
		n    int
		want string
	}{
		{0, "0"},
		{7, "7"},
		{-7, "-7"},
		{10, "10"},
		{-120, "-120"},
		{999999999, "999999999"},
		{1000000000, "1000000000"},
		{-1000000000, "-1000000000"},
		{math.MaxInt, "9223372036854775807"},
		{math.MinInt, "-9223372036854775808"},
		{math.MinInt + 1, "-9223372036854775807"},
	} {
		if got := impl.FormatInt(c.n); got != c.want {
			t.Errorf("FormatInt(%d) = %q, want %q", c.n, got, c.want)
		}
	}
	for _, n := range limitsOf() {
		for _, m := range []int{n, -n, -n - 1} {
			if got, want := impl.FormatInt(m), strconv.FormatInt(int64(m), 10); got != want {
				t.Errorf("FormatInt(%d) = %q, want %q", m, got, want)
			}
		}
	}
}

func TestParseInt(t *testing.T) {
	for _, c := range []struct {
		s    string
		want int
	}{
		{"0", 0},
		{"7", 7},
		{"-7", -7},
		{"10", 10},
		{"-100", -100},
		{"123456789", 123456789},
		{"100000000", 100000000},
		{"999999999", 999999999},
		{"-999999999", -999999999},
	} {
		if got, ok := impl.ParseInt(c.s); got != c.want || !ok {
			t.Errorf("ParseInt(%q) = %d, %v, want %d", c.s, got, ok, c.want)
		}
	}
}

func TestParseIntRefuses(t *testing.T) {
	for _, c := range []struct{ why, s string }{
		{"empty", ""},
		{"a sign alone", "-"},
		{"a sign alone", "+"},
		{"two signs", "--1"},
		{"a sign behind", "1-"},
		{"a sign within", "1-1"},
		{"minus zero", "-0"},
		{"plus", "+1"},
		{"plus", "+0"},
		{"leading zero", "00"},
		{"leading zero", "07"},
		{"leading zero", "-07"},
		{"leading zeros", "000000001"},
		{"leading zero of ten digits", "0123456789"},
		{"ten digits", "1000000000"},
		{"ten digits", "-1000000000"},
		{"ten digits", "9999999999"},
		{"more digits than an int has", strings.Repeat("9", 40)},
		{"a number that wraps around to 1", "18446744073709551617"},
		{"space", " 1"},
		{"space", "1 "},
		{"newline", "1\n"},
		{"zero byte", "1\x00"},
		{"underscore", "1_0"},
		{"hexadecimal", "0x1"},
		{"letter", "1a"},
		{"point", "1.0"},
		{"exponent", "1e3"},
		{"digits of another script", "\u0661"},
		{"wide digits", "\uff11"},
		{"minus sign of another kind", "\u22121"},
		{"no valid text", "\xff"},
	} {
		if n, ok := impl.ParseInt(c.s); n != 0 || ok {
			t.Errorf("%s: ParseInt(%q) = %d, %v", c.why, c.s, n, ok)
		}
	}
}

// TestParseIntAcceptsNothingElse holds all strings of a small alphabet against the form that FormatInt has.
func TestParseIntAcceptsNothingElse(t *testing.T) {
	form := regexp.MustCompile(`\A(0|-?[1-9][0-9]{0,8})\z`)
	check := func(s string) {
		n, ok := impl.ParseInt(s)
		if ok != form.MatchString(s) || !ok && n != 0 || ok && strconv.Itoa(n) != s {
			t.Fatalf("ParseInt(%q) = %d, %v", s, n, ok)
		}
	}
	allStrings([]string{"-", "+", "0", "1", "9", "/", ":", " ", "_", "\u0661"}, 4, check)
	allStrings([]string{"-", "0", "9"}, 11, check)
	for b := 0; b < 256; b++ {
		check(string([]byte{byte(b)}))
		check("-" + string([]byte{byte(b)}))
		check(string([]byte{'1', byte(b)}))
	}
}

func TestIntRoundTrip(t *testing.T) {
	l := []int{-999999999, -999999998, 999999998, 999999999}
	for n := -20000; n <= 20000; n++ {
		l = append(l, n)
	}
	for power := 1; power <= 100000000; power *= 10 {
		l = append(l, power-1, power, power+1, 1-power, -power, -power-1)
	}
	for _, n := range l {
		if got, ok := impl.ParseInt(impl.FormatInt(n)); got != n || !ok {
			t.Errorf("ParseInt(%q) = %d, %v", impl.FormatInt(n), got, ok)
		}
	}
	for _, n := range []int{math.MinInt, -1000000000, 1000000000, math.MaxInt} {
		if got, ok := impl.ParseInt(impl.FormatInt(n)); got != 0 || ok {
			t.Errorf("ParseInt(%q) = %d, %v for more than 9 digits", impl.FormatInt(n), got, ok)
		}
	}
}
