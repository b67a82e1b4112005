package tests

import (
	"fmt"
	"math"
	"regexp"
	"slices"
	"strconv"
	"strings"
	"testing"

	"loop.example/g01986/impl"
)

// allMembers returns the set of all numbers of queries.
func allMembers() []int {
	var l []int
	for x := 0; x < 24; x++ {
		l = append(l, x)
	}
	return l
}

// nonSets are lists that no function takes for a set.
var nonSets = [][]int{
	{-1},
	{24},
	{25},
	{31},
	{32},
	{63},
	{64},
	{128},
	{math.MinInt},
	{math.MaxInt},
	{math.MaxInt - 63},
	{-1, 0},
	{-24, 1},
	{23, 24},
	{0, 64},
	{1, 65},
	{0, 1 << 32},
	{0, math.MaxInt},
	{0, 0},
	{1, 1},
	{23, 23},
	{0, 1, 1},
	{1, 0},
	{23, 0},
	{23, 22},
	{0, 2, 1},
	{2, 1, 3},
	{0, 5, 3, 7},
	{0, 1, 2, 3, 24},
	append(allMembers(), 24),
	append(allMembers(), 23),
	append([]int{0}, allMembers()...),
}

// setOf returns the numbers of bits in ascending order, by the bits of a number.
func setOf(bits int, numbers []int) []int {
	var l []int
	for i, x := range numbers {
		if bits>>i&1 == 1 {
			l = append(l, x)
		}
	}
	return l
}

// isSetOf is an independent statement of IsSet.
func isSetOf(l []int) bool {
	for i, x := range l {
		if x < 0 || x > 23 || i > 0 && l[i-1] >= x {
			return false
		}
	}
	return true
}

// pick returns the members that an operation keeps, from 0 to 23, by what it says of each number.
func pick(a, b []int, keeps func(inA, inB bool) bool) []int {
	inA, inB := map[int]bool{}, map[int]bool{}
	for _, x := range a {
		inA[x] = true
	}
	for _, x := range b {
		inB[x] = true
	}
	var l []int
	for x := 0; x < 24; x++ {
		if keeps(inA[x], inB[x]) {
			l = append(l, x)
		}
	}
	return l
}

var setOperations = []struct {
	name  string
	apply func(a, b []int) []int
	keeps func(inA, inB bool) bool
}{
	{"UniteSets", impl.UniteSets, func(inA, inB bool) bool { return inA || inB }},
	{"MeetSets", impl.MeetSets, func(inA, inB bool) bool { return inA && inB }},
	{"SubtractSets", impl.SubtractSets, func(inA, inB bool) bool { return inA && !inB }},
}

// setTextOf is an independent statement of FormatSet for a set.
func setTextOf(l []int) string {
	if len(l) == 0 {
		return "none"
	}
	text := strconv.Itoa(l[0])
	for i := 1; i < len(l); i++ {
		follows := i+1 < len(l) && l[i+1] == l[i]+1
		switch {
		case l[i] != l[i-1]+1:
			text += fmt.Sprintf(" %d", l[i])
		case !follows:
			text += fmt.Sprintf("-%d", l[i])
		}
	}
	return text
}

var setForm = regexp.MustCompile(`\A(0|[1-9][0-9]?)(-[1-9][0-9]?)?( [1-9][0-9]?(-[1-9][0-9]?)?)*\z`)

// readSet is an independent statement of ParseSet: the form by a pattern, then runs with gaps between them.
func readSet(s string) ([]int, bool) {
	if s == "none" {
		return nil, true
	}
	if !setForm.MatchString(s) {
		return nil, false
	}
	var l []int
	for _, run := range strings.Split(s, " ") {
		ends := strings.Split(run, "-")
		first, _ := strconv.Atoi(ends[0])
		last, _ := strconv.Atoi(ends[len(ends)-1])
		adjacent := len(l) > 0 && first <= l[len(l)-1]+1
		if adjacent || last > 23 || len(ends) == 2 && first >= last {
			return nil, false
		}
		for x := first; x <= last; x++ {
			l = append(l, x)
		}
	}
	return l, true
}

// manySets returns all sets of numbers within several parts of the range, and those that lack them.
func manySets() [][]int {
	sets := [][]int{nil, allMembers()}
	for _, numbers := range [][]int{
		{0, 1, 2, 3, 4, 5, 6, 7, 8, 9, 10, 11},
		{6, 7, 8, 9, 10, 11, 12, 13, 14},
		{12, 13, 14, 15, 16, 17, 18, 19, 20, 21, 22, 23},
		{0, 1, 2, 9, 10, 11, 21, 22, 23},
	} {
		for bits := 0; bits < 1<<len(numbers); bits++ {
			l := setOf(bits, numbers)
			rest := pick(allMembers(), l, func(inA, inB bool) bool { return inA && !inB })
			sets = append(sets, l, rest)
		}
	}
	return sets
}

func TestMaxQueries(t *testing.T) {
	if impl.MaxQueries != 24 {
		t.Errorf("MaxQueries = %d", impl.MaxQueries)
	}
}

func TestIsSet(t *testing.T) {
	for _, l := range [][]int{nil, {}, {0}, {23}, {0, 1}, {0, 23}, {22, 23}, {0, 2, 5}, {3, 4, 5, 20}, allMembers()} {
		if !impl.IsSet(l) {
			t.Errorf("IsSet(%v) = false", l)
		}
	}
	for _, l := range nonSets {
		if impl.IsSet(l) {
			t.Errorf("IsSet(%v) = true", l)
		}
	}
	for _, l := range manySets() {
		if !impl.IsSet(l) {
			t.Fatalf("IsSet(%v) = false", l)
		}
	}
}

// TestIsSetOfAllLists holds all short lists of numbers around the limits against the definition.
func TestIsSetOfAllLists(t *testing.T) {
	numbers := []int{math.MinInt, -1, 0, 1, 2, 22, 23, 24, 32, 64, math.MaxInt}
	var extend func(l []int)
	extend = func(l []int) {
		if got, want := impl.IsSet(l), isSetOf(l); got != want {
			t.Fatalf("IsSet(%v) = %v, want %v", l, got, want)
		}
		if len(l) == 4 {
			return
		}
		for _, x := range numbers {
			extend(append(slices.Clone(l), x))
		}
	}
	extend(nil)
}

func TestSetOperations(t *testing.T) {
	for _, c := range []struct{ a, b, united, met, subtracted []int }{
		{[]int{0, 2, 5}, []int{1, 2}, []int{0, 1, 2, 5}, []int{2}, []int{0, 5}},
		{[]int{1, 2}, []int{0, 2, 5}, []int{0, 1, 2, 5}, []int{2}, []int{1}},
		{nil, nil, nil, nil, nil},
		{[]int{}, nil, nil, nil, nil},
		{[]int{4, 23}, nil, []int{4, 23}, nil, []int{4, 23}},
		{nil, []int{4, 23}, []int{4, 23}, nil, nil},
		{[]int{4, 23}, []int{4, 23}, []int{4, 23}, []int{4, 23}, nil},
		{[]int{0}, []int{23}, []int{0, 23}, nil, []int{0}},
		{[]int{23}, []int{0}, []int{0, 23}, nil, []int{23}},
		{allMembers(), allMembers(), allMembers(), allMembers(), nil},
		{allMembers(), []int{0, 23}, allMembers(), []int{0, 23}, allMembers()[1:23]},
		{[]int{0, 23}, allMembers(), allMembers(), []int{0, 23}, nil},
	} {
		if got := impl.UniteSets(c.a, c.b); !slices.Equal(got, c.united) {
			t.Errorf("UniteSets(%v, %v) = %v, want %v", c.a, c.b, got, c.united)
		}
		if got := impl.MeetSets(c.a, c.b); !slices.Equal(got, c.met) {
			t.Errorf("MeetSets(%v, %v) = %v, want %v", c.a, c.b, got, c.met)
		}
		if got := impl.SubtractSets(c.a, c.b); !slices.Equal(got, c.subtracted) {
			t.Errorf("SubtractSets(%v, %v) = %v, want %v", c.a, c.b, got, c.subtracted)
		}
	}
}

// TestSetOperationsOnAllPairs takes each pair of sets of some numbers, each number anywhere in the range for some of them.
func TestSetOperationsOnAllPairs(t *testing.T) {
	for _, numbers := range [][]int{{0, 1, 2, 21, 22, 23}, {3, 4, 8, 9, 10, 11}, {5, 6, 7, 12, 13, 14}, {15, 16, 17, 18, 19, 20}} {
		for i := 0; i < 1<<len(numbers); i++ {
			for j := 0; j < 1<<len(numbers); j++ {
				a, b := setOf(i, numbers), setOf(j, numbers)
				for _, o := range setOperations {
					if got, want := o.apply(a, b), pick(a, b, o.keeps); !slices.Equal(got, want) {
						t.Fatalf("%s(%v, %v) = %v, want %v", o.name, a, b, got, want)
					}
				}
			}
		}
	}
}

func TestSetOperationsRefuse(t *testing.T) {
	for _, o := range setOperations {
		for _, bad := range nonSets {
			for _, good := range [][]int{nil, {0}, {0, 2, 5}, {23}, allMembers()} {
				if got := o.apply(bad, good); len(got) != 0 {
					t.Errorf("%s(%v, %v) = %v", o.name, bad, good, got)
				}
				if got := o.apply(good, bad); len(got) != 0 {
					t.Errorf("%s(%v, %v) = %v", o.name, good, bad, got)
				}
			}
			if got := o.apply(bad, bad); len(got) != 0 {
				t.Errorf("%s(%v, %v) = %v", o.name, bad, bad, got)
			}
		}
	}
}

// TestSetsAreLeftAlone watches the arguments, their unused capacity included, while a result is written to.
func TestSetsAreLeftAlone(t *testing.T) {
	wholeA := []int{0, 2, 5, 23, 7, 7, 7, 7}
	wholeB := []int{1, 2, 23, 9, 9, 9, 9, 9}
	beforeA, beforeB := slices.Clone(wholeA), slices.Clone(wholeB)
	a, b := wholeA[:4], wholeB[:3]
	impl.IsSet(a)
	impl.HasMember(a, 5)
	impl.FormatSet(a)
	for _, o := range setOperations {
		for _, pair := range [][2][]int{{a, b}, {b, a}, {a, nil}, {nil, a}, {a, a}, {b, wholeA}, {wholeB, a}} {
			l := o.apply(pair[0], pair[1])
			for i := range l {
				l[i] = -5
			}
			_ = append(l, -6)
			if !slices.Equal(wholeA, beforeA) || !slices.Equal(wholeB, beforeB) {
				t.Fatalf("%s changed an argument or shares its memory: %v, %v", o.name, wholeA, wholeB)
			}
		}
	}
}

func TestHasMember(t *testing.T) {
	for _, c := range []struct {
		l    []int
		x    int
		want bool
		why  string
	}{
		{[]int{7, 1}, 1, true, "not ascending"},
		{[]int{7, 1}, 7, true, "the first element"},
		{[]int{7, 1}, 2, false, "between the elements"},
		{[]int{7, 1}, 0, false, "before the elements"},
		{nil, 0, false, "an empty list"},
		{[]int{}, 0, false, "an empty list"},
		{nil, -1, false, "an empty list"},
		{[]int{0}, 0, true, "the least number"},
		{[]int{23}, 23, true, "the greatest number"},
		{[]int{22, 24}, 23, false, "only the numbers around it"},
		{[]int{0, 1, 2}, 1, true, "a set"},
		{[]int{0, 1, 2}, 3, false, "a set"},
		{[]int{3, 3, 3}, 3, true, "one element several times"},
		{[]int{24}, 24, true, "a number of no query"},
		{[]int{64}, 0, false, "a number of no query"},
		{[]int{0}, 64, false, "a number of no query"},
		{[]int{-1}, -1, true, "a negative number"},
		{[]int{5, -1, math.MinInt}, math.MinInt, true, "the least int"},
		{[]int{5, math.MaxInt, -1}, math.MaxInt, true, "the greatest int"},
		{[]int{math.MaxInt}, math.MinInt, false, "the other end"},
		{append(allMembers(), allMembers()...), 23, true, "more elements than a set has"},
		{append(allMembers(), 99), 99, true, "behind more elements than a set has"},
	} {
		if got := impl.HasMember(c.l, c.x); got != c.want {
			t.Errorf("%s: HasMember(%v, %d) = %v", c.why, c.l, c.x, got)
		}
	}
	for _, l := range manySets() {
		for x := -2; x <= 70; x++ {
			if got, want := impl.HasMember(l, x), slices.Index(l, x) >= 0; got != want {
				t.Fatalf("HasMember(%v, %d) = %v", l, x, got)
			}
		}
	}
}

func TestFormatSet(t *testing.T) {
	for _, c := range []struct {
		l    []int
		want string
	}{
		{[]int{0, 1, 2, 3, 7}, "0-3 7"},
		{nil, "none"},
		{[]int{}, "none"},
		{[]int{0}, "0"},
		{[]int{9}, "9"},
		{[]int{10}, "10"},
		{[]int{23}, "23"},
		{[]int{0, 1}, "0-1"},
		{[]int{22, 23}, "22-23"},
		{[]int{21, 23}, "21 23"},
		{[]int{0, 23}, "0 23"},
		{[]int{9, 10}, "9-10"},
		{[]int{0, 2, 4}, "0 2 4"},
		{[]int{0, 1, 3, 4, 6}, "0-1 3-4 6"},
		{[]int{1, 3, 4, 5, 7}, "1 3-5 7"},
		{allMembers(), "0-23"},
		{allMembers()[1:], "1-23"},
		{allMembers()[:23], "0-22"},
		{[]int{0, 2, 4, 6, 8, 10, 12, 14, 16, 18, 20, 22}, "0 2 4 6 8 10 12 14 16 18 20 22"},
		{[]int{1, 3, 5, 7, 9, 11, 13, 15, 17, 19, 21, 23}, "1 3 5 7 9 11 13 15 17 19 21 23"},
	} {
		if got := impl.FormatSet(c.l); got != c.want {
			t.Errorf("FormatSet(%v) = %q, want %q", c.l, got, c.want)
		}
	}
	for _, l := range nonSets {
		if got := impl.FormatSet(l); got != "" {
			t.Errorf("FormatSet(%v) = %q", l, got)
		}
	}
}

func TestParseSet(t *testing.T) {
	for _, c := range []struct {
		s    string
		want []int
	}{
		{"none", nil},
		{"0", []int{0}},
		{"23", []int{23}},
		{"22-23", []int{22, 23}},
		{"0 23", []int{0, 23}},
		{"0-1 3", []int{0, 1, 3}},
		{"0-3 7", []int{0, 1, 2, 3, 7}},
		{"0-1 3-4 6", []int{0, 1, 3, 4, 6}},
		{"9-10", []int{9, 10}},
		{"0-23", allMembers()},
	} {
		if got, ok := impl.ParseSet(c.s); !ok || !slices.Equal(got, c.want) {
			t.Errorf("ParseSet(%q) = %v, %v, want %v", c.s, got, ok, c.want)
		}
	}
}

func TestParseSetRefuses(t *testing.T) {
	for _, c := range []struct{ why, s string }{
		{"empty", ""},
		{"a space alone", " "},
		{"a space in front", " 0"},
		{"a space at the end", "0 "},
		{"two spaces", "5  7"},
		{"spaces within a run", "0 - 1"},
		{"another separator", "0,2"},
		{"another separator", "0\t2"},
		{"another separator", "0\n2"},
		{"a newline at the end", "0\n"},
		{"a zero byte", "0\x00"},
		{"none and something else", "none 0"},
		{"none and something else", "0 none"},
		{"none twice", "none none"},
		{"none with a space", "none "},
		{"capitals", "None"},
		{"cut off", "non"},
		{"adjacent numbers as two runs", "0 1"},
		{"adjacent runs", "0-1 2"},
		{"adjacent runs", "0-1 2-3"},
		{"adjacent runs", "0 1-2"},
		{"adjacent runs at the end", "22 23"},
		{"a run of one number", "3-3"},
		{"a run of one number", "0-0"},
		{"a run of one number", "23-23"},
		{"a run backward", "1-0"},
		{"a run backward", "23-0"},
		{"a run backward beside another", "5-3 7"},
		{"a run of three ends", "0-1-2"},
		{"a run without an end", "0-"},
		{"a run without a beginning", "-1"},
		{"a dash alone", "-"},
		{"two dashes", "0--1"},
		{"not ascending", "2 0"},
		{"not ascending", "7 0-3"},
		{"a number twice", "5 5"},
		{"a number within a run", "0-3 2"},
		{"a run within a run", "0-5 2-3"},
		{"runs that overlap", "0-3 2-5"},
		{"one beyond the greatest", "24"},
		{"one beyond the greatest", "0 24"},
		{"a run beyond the greatest", "22-24"},
		{"a run beyond the greatest", "0-24"},
		{"a run beyond the greatest", "24-25"},
		{"a run of all bits", "0-31"},
		{"a run of all bits", "0-63"},
		{"a number that a shift loses", "0 32"},
		{"a number that a shift loses", "0 64"},
		{"a long run", "0-999999999"},
		{"a long run", "999999998-999999999"},
		{"ten digits", "1000000000"},
		{"more digits than an int has", strings.Repeat("9", 40)},
		{"a number that wraps around to 1", "18446744073709551617"},
		{"a negative number", "-1-2"},
		{"a leading zero", "01"},
		{"a leading zero", "00"},
		{"a leading zero", "0-01"},
		{"a leading zero", "00-1"},
		{"plus", "+1"},
		{"a letter", "q1"},
		{"a letter", "1a"},
		{"hexadecimal", "0x1"},
		{"brackets", "[0 2]"},
		{"digits of another script", "\u0661"},
		{"a dash of another kind", "0\u20131"},
		{"a space of another kind", "0\u00a02"},
		{"no valid text", "\xff"},
		{"many numbers", strings.Repeat("0 ", 100000) + "0"},
		{"many spaces", strings.Repeat(" ", 100000)},
	} {
		if l, ok := impl.ParseSet(c.s); ok || len(l) != 0 {
			t.Errorf("%s: ParseSet(%.40q) = %v, %v", c.why, c.s, l, ok)
		}
	}
}

func TestSetRoundTrip(t *testing.T) {
	for _, l := range manySets() {
		text := impl.FormatSet(l)
		if want := setTextOf(l); text != want {
			t.Fatalf("FormatSet(%v) = %q, want %q", l, text, want)
		}
		if got, ok := impl.ParseSet(text); !ok || !slices.Equal(got, l) {
			t.Fatalf("ParseSet(%q) = %v, %v, want %v", text, got, ok, l)
		}
	}
}

// TestParseSetAcceptsNothingElse holds all short strings, of several alphabets, against the form.
func TestParseSetAcceptsNothingElse(t *testing.T) {
	check := func(s string) {
		want, wantOk := readSet(s)
		if got, ok := impl.ParseSet(s); ok != wantOk || !slices.Equal(got, want) {
			t.Fatalf("ParseSet(%q) = %v, %v, want %v, %v", s, got, ok, want, wantOk)
		}
	}
	allStrings([]string{"0", "1", "2", "3", "4", "-", " "}, 7, check)
	allStrings([]string{"0", "1", "9", "10", "22", "23", "24", "-", " "}, 6, check)
	allStrings([]string{"0", "5", "none", "-", " ", "+", "\n", "\xff"}, 4, check)
	for b := 0; b < 256; b++ {
		check(string([]byte{byte(b)}))
		check(string([]byte{'0', byte(b)}))
		check(string([]byte{byte(b), '2'}))
		check(string([]byte{'0', byte(b), '2'}))
		check("0-1" + string([]byte{byte(b)}) + "3")
		check("none" + string([]byte{byte(b)}))
	}
	for first := 0; first < 70; first++ {
		for last := 0; last < 70; last++ {
			check(fmt.Sprintf("%d-%d", first, last))
			check(fmt.Sprintf("%d %d", first, last))
			check(fmt.Sprintf("0-2 %d-%d 23", first, last))
		}
	}
}
