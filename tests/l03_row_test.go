package tests

import (
	"fmt"
	"math"
	"regexp"
	"slices"
	"strconv"
	"strings"
	"testing"

	"loop.example/g01986/impl"
)

// row returns a row with any number of values.
func row(id int, values ...int) impl.Row { return impl.Row{Id: id, Values: values} }

// badRows are rows that no function takes for valid.
var badRows = []impl.Row{
	{},
	{Id: 1, Values: []int{}},
	row(1, 1),
	row(1, 1, 2),
	row(1, 0, 0),
	row(1, 1, 2, 3, 4),
	row(1, 0, 0, 0, 0),
	row(1, 1, 2, 3, 100),
	row(1, make([]int, 99)...),
	row(-1, 1, 2, 3),
	row(1000, 1, 2, 3),
	row(math.MinInt, 1, 2, 3),
	row(math.MaxInt, 1, 2, 3),
	row(1, -1, 2, 3),
	row(1, 1, -1, 3),
	row(1, 1, 2, -1),
	row(1, 100, 2, 3),
	row(1, 1, 100, 3),
	row(1, 1, 2, 100),
	row(1, math.MinInt, 2, 3),
	row(1, 1, math.MaxInt, 3),
	row(1, 1, 2, math.MinInt),
	row(1, 256, 2, 3),
	row(1, 1, 1<<32, 3),
}

// goodRows are valid, with numbers and values at the limits among them.
func goodRows() []impl.Row {
	var l []impl.Row
	for _, id := range []int{0, 1, 9, 10, 99, 100, 101, 998, 999} {
		numbers := []int{0, 1, 9, 10, 98, 99}
		for _, a := range numbers {
			for _, b := range numbers {
				for _, c := range numbers {
					l = append(l, row(id, a, b, c))
				}
			}
		}
	}
	return l
}

// smallRows are all rows with some numbers and up to four values from a few.
func smallRows() []impl.Row {
	lists := [][]int{nil, {}}
	last := [][]int{nil}
	for range 4 {
		var longer [][]int
		for _, values := range last {
			for _, v := range []int{-1, 0, 5} {
				longer = append(longer, append(slices.Clone(values), v))
			}
		}
		lists = append(lists, longer...)
		last = longer
	}
	var l []impl.Row
	for _, id := range []int{-1, 0, 7} {
		for _, values := range lists {
			l = append(l, impl.Row{Id: id, Values: values})
		}
	}
	return l
}

// rowText writes any row without the empty forms of a list being different.
func rowText(r impl.Row) string { return fmt.Sprintf("%d:%v", r.Id, r.Values) }

func rowsText(l []impl.Row) string {
	texts := make([]string, len(l))
	for i, r := range l {
		texts[i] = rowText(r)
	}
	return strings.Join(texts, " ")
}

// isRowOf is an independent statement of IsRow.
func isRowOf(r impl.Row) bool {
	if r.Id < 0 || r.Id > 999 || len(r.Values) != 3 {
		return false
	}
	return !slices.ContainsFunc(r.Values, func(v int) bool { return v < 0 || v > 99 })
}

var rowForm = regexp.MustCompile(`\A(0|[1-9][0-9]{0,2}):(0|[1-9][0-9]?),(0|[1-9][0-9]?),(0|[1-9][0-9]?)\z`)

// readRow is an independent statement of ParseRow.
func readRow(s string) (impl.Row, bool) {
	parts := rowForm.FindStringSubmatch(s)
	if parts == nil {
		return impl.Row{}, false
	}
	var n [4]int
	for i := range n {
		n[i], _ = strconv.Atoi(parts[i+1])
	}
	return row(n[0], n[1:]...), true
}

// checkParseRow holds ParseRow of one string against readRow.
func checkParseRow(t *testing.T, s string) {
	t.Helper()
	want, wantOk := readRow(s)
	if got, ok := impl.ParseRow(s); ok != wantOk || rowText(got) != rowText(want) {
		t.Fatalf("ParseRow(%q) = %v, %v, want %v, %v", s, got, ok, want, wantOk)
	}
}

// isBefore is an independent statement of the order of SortRows.
func isBefore(a, b impl.Row) bool {
	if a.Id != b.Id {
		return a.Id < b.Id
	}
	for i, v := range a.Values {
		if i == len(b.Values) {
			return false
		}
		if v != b.Values[i] {
			return v < b.Values[i]
		}
	}
	return len(a.Values) < len(b.Values)
}

func TestRowConstants(t *testing.T) {
	if impl.FieldCount != 3 || impl.MaxField != 99 || impl.MaxId != 999 || impl.MaxRows != 32 {
		t.Errorf("FieldCount, MaxField, MaxId, MaxRows = %d, %d, %d, %d", impl.FieldCount, impl.MaxField, impl.MaxId, impl.MaxRows)
	}
}

func TestIsRow(t *testing.T) {
	for _, r := range []impl.Row{row(0, 0, 0, 0), row(999, 99, 99, 99), row(5, 1, 2, 3), row(0, 99, 0, 99), row(999, 0, 99, 0)} {
		if !impl.IsRow(r) {
			t.Errorf("IsRow(%v) = false", r)
		}
	}
	for _, r := range badRows {
		if impl.IsRow(r) {
			t.Errorf("IsRow(%v) = true", r)
		}
	}
	for _, r := range slices.Concat(goodRows(), smallRows()) {
		if got, want := impl.IsRow(r), isRowOf(r); got != want {
			t.Errorf("IsRow(%v) = %v", r, got)
		}
	}
}

// TestIsRowOfAllNumbers tries each number around the range, in each place alone.
func TestIsRowOfAllNumbers(t *testing.T) {
	for n := -1100; n <= 1100; n++ {
		for _, r := range []impl.Row{row(n, 1, 2, 3), row(1, n, 2, 3), row(1, 1, n, 3), row(1, 1, 2, n), row(n, n, n, n)} {
			if got, want := impl.IsRow(r), isRowOf(r); got != want {
				t.Errorf("IsRow(%v) = %v", r, got)
			}
		}
	}
}

// ascending returns so many valid rows with the Ids first, first+1 and so on.
func ascending(first, count int) []impl.Row {
	var l []impl.Row
	for i := range count {
		l = append(l, row(first+i, i, 99-i, 0))
	}
	return l
}

func TestAreRows(t *testing.T) {
	for _, l := range [][]impl.Row{
		nil,
		{},
		{row(0, 0, 0, 0)},
		{row(999, 0, 0, 0)},
		{row(0, 5, 5, 5), row(999, 5, 5, 5)},
		{row(1, 9, 9, 9), row(2, 0, 0, 0)},
		ascending(0, 31),
		ascending(0, 32),
		ascending(968, 32),
	} {
		if !impl.AreRows(l) {
			t.Errorf("AreRows(%v) = false", l)
		}
	}
}

func TestAreRowsRefuses(t *testing.T) {
	for _, c := range []struct {
		why string
		l   []impl.Row
	}{
		{"one row too many", ascending(0, 33)},
		{"far too many rows", ascending(0, 99)},
		{"rows too many, none of them valid", make([]impl.Row, 33)},
		{"equal numbers with different values", []impl.Row{row(1, 0, 0, 0), row(1, 0, 0, 1)}},
		{"equal numbers with different values", []impl.Row{row(1, 5, 0, 0), row(1, 0, 0, 0)}},
		{"equal numbers with different values at the end", append(ascending(0, 10), row(9, 50, 50, 50))},
		{"one row twice", []impl.Row{row(1, 0, 0, 0), row(1, 0, 0, 0)}},
		{"descending", []impl.Row{row(2, 0, 0, 0), row(1, 0, 0, 0)}},
		{"descending by values in ascending order", []impl.Row{row(2, 0, 0, 0), row(1, 1, 1, 1)}},
		{"descending at the end", append(ascending(5, 10), row(4, 0, 0, 0))},
		{"descending in the middle", []impl.Row{row(1, 0, 0, 0), row(5, 0, 0, 0), row(3, 0, 0, 0), row(9, 0, 0, 0)}},
		{"beyond the greatest number", ascending(968, 33)},
		{"beyond the greatest number", ascending(998, 3)},
		{"before the least number", ascending(-1, 3)},
	} {
		if impl.AreRows(c.l) {
			t.Errorf("%s: AreRows(%v) = true", c.why, c.l)
		}
	}
	for _, bad := range badRows {
		for _, l := range [][]impl.Row{{bad}, {bad, row(500, 0, 0, 0)}, {row(0, 0, 0, 0), bad}, {row(0, 0, 0, 0), bad, row(500, 0, 0, 0)}} {
			if impl.AreRows(l) {
				t.Errorf("AreRows(%v) = true", l)
			}
		}
	}
}

func TestFormatRow(t *testing.T) {
	for _, c := range []struct {
		r    impl.Row
		want string
	}{
		{row(5, 1, 2, 3), "5:1,2,3"},
		{row(0, 0, 0, 0), "0:0,0,0"},
		{row(999, 99, 99, 99), "999:99,99,99"},
		{row(10, 9, 10, 0), "10:9,10,0"},
		{row(100, 0, 0, 7), "100:0,0,7"},
	} {
		if got := impl.FormatRow(c.r); got != c.want {
			t.Errorf("FormatRow(%v) = %q, want %q", c.r, got, c.want)
		}
	}
	for _, r := range badRows {
		if got := impl.FormatRow(r); got != "" {
			t.Errorf("FormatRow(%v) = %q", r, got)
		}
	}
}

func TestParseRow(t *testing.T) {
	for _, c := range []struct {
		s    string
		want impl.Row
	}{
		{"5:1,2,3", row(5, 1, 2, 3)},
		{"0:0,0,0", row(0, 0, 0, 0)},
		{"999:99,99,99", row(999, 99, 99, 99)},
		{"10:9,10,0", row(10, 9, 10, 0)},
		{"1:3,2,1", row(1, 3, 2, 1)},
	} {
		if got, ok := impl.ParseRow(c.s); !ok || rowText(got) != rowText(c.want) {
			t.Errorf("ParseRow(%q) = %v, %v, want %v", c.s, got, ok, c.want)
		}
	}
}

func TestParseRowRefuses(t *testing.T) {
	for _, c := range []struct{ why, s string }{
		{"empty", ""},
		{"no number", ":1,2,3"},
		{"no colon", "1"},
		{"no colon", "1 2,3,4"},
		{"no colon", "1,2,3,4"},
		{"no colon", "1.2,3,4"},
		{"a colon alone", ":"},
		{"two colons", "1::2,3,4"},
		{"two colons", "1:2:3,4,5"},
		{"a colon for a comma", "1:2:3:4"},
		{"a colon at the end", "1:2,3,4:"},
		{"a colon of another kind", "1\uff1a2,3,4"},
		{"no values", "1:"},
		{"commas alone", "1:,,"},
		{"one value", "1:2"},
		{"two values", "1:2,3"},
		{"four values", "1:2,3,4,5"},
		{"a comma in front", "1:,2,3,4"},
		{"a comma at the end", "1:2,3,4,"},
		{"two commas", "1:2,,3,4"},
		{"a value missing", "1:2,,4"},
		{"another separator", "1:2;3;4"},
		{"another separator", "1:2 3 4"},
		{"space", " 1:2,3,4"},
		{"space", "1:2,3,4 "},
		{"space", "1 :2,3,4"},
		{"space", "1: 2,3,4"},
		{"space", "1:2, 3,4"},
		{"newline", "1:2,3,4\n"},
		{"newline", "1:2,\n3,4"},
		{"zero byte", "1:2,3,4\x00"},
		{"leading zero", "01:2,3,4"},
		{"leading zero", "1:02,3,4"},
		{"leading zero", "1:2,00,4"},
		{"leading zero", "1:2,3,04"},
		{"minus zero", "-0:2,3,4"},
		{"minus zero", "1:2,-0,4"},
		{"plus", "+1:2,3,4"},
		{"plus", "1:2,3,+4"},
		{"a negative number", "-1:2,3,4"},
		{"a negative value", "1:2,3,-4"},
		{"one beyond the greatest number", "1000:2,3,4"},
		{"one beyond the greatest value", "1:100,3,4"},
		{"one beyond the greatest value", "1:2,100,4"},
		{"one beyond the greatest value", "1:2,3,100"},
		{"nine digits", "1:2,3,999999999"},
		{"ten digits", "1000000000:2,3,4"},
		{"a number that wraps around to 1", "18446744073709551617:2,3,4"},
		{"a number that wraps around to 1", "1:18446744073709551617,3,4"},
		{"hexadecimal", "1:0x2,3,4"},
		{"letters", "a:b,c,d"},
		{"a word in front", "insert 1:2,3,4"},
		{"two rows", "1:2,3,4 2:2,3,4"},
		{"two rows", "1:2,3,4,2:2,3,4"},
		{"brackets", "1:[2,3,4]"},
		{"digits of another script", "\u0661:2,3,4"},
		{"no valid text", "\xff"},
		{"no valid text", "1:2,3,4\xff"},
		{"many values", "1:" + strings.Repeat("0,", 100000) + "0"},
		{"many commas", strings.Repeat(",", 100000)},
		{"many colons", strings.Repeat(":", 100000)},
	} {
		if r, ok := impl.ParseRow(c.s); ok || r.Id != 0 || len(r.Values) != 0 {
			t.Errorf("%s: ParseRow(%.40q) = %v, %v", c.why, c.s, r, ok)
		}
	}
}

func TestRowRoundTrip(t *testing.T) {
	rows := goodRows()
	for id := 0; id <= 999; id++ {
		rows = append(rows, row(id, id%100, id/10, 99-id%100))
	}
	for _, r := range rows {
		text := impl.FormatRow(r)
		if want := fmt.Sprintf("%d:%d,%d,%d", r.Id, r.Values[0], r.Values[1], r.Values[2]); text != want {
			t.Fatalf("FormatRow(%v) = %q, want %q", r, text, want)
		}
		if got, ok := impl.ParseRow(text); !ok || rowText(got) != rowText(r) {
			t.Fatalf("ParseRow(%q) = %v, %v, want %v", text, got, ok, r)
		}
	}
}

// TestParseRowAcceptsNothingElse holds strings near the form, and all short ones, against it.
func TestParseRowAcceptsNothingElse(t *testing.T) {
	numbers := []string{"", "0", "7", "10", "99", "100", "999", "1000", "00", "07", "-1", "-0", "+1", " 1", "1 ", "1\n", "1_0", "a", "\u0661", "1000000000"}
	for _, id := range numbers {
		for _, a := range numbers {
			for _, b := range numbers {
				for _, c := range numbers {
					checkParseRow(t, id+":"+a+","+b+","+c)
				}
			}
		}
	}
	separators := []string{"", ":", ",", "::", ",,", ": ", ", ", " ", ";", "-", "\x00", "1"}
	for _, x := range separators {
		for _, y := range separators {
			for _, z := range separators {
				checkParseRow(t, "5"+x+"6"+y+"7"+z+"8")
			}
		}
	}
	allStrings([]string{"0", "1", ":", ","}, 9, func(s string) { checkParseRow(t, s) })
}

// TestParseRowAfterOneEdit inserts, deletes and replaces each byte.
func TestParseRowAfterOneEdit(t *testing.T) {
	for _, text := range []string{"5:1,2,3", "0:0,0,0", "999:99,99,99", "10:9,10,0", "100:11,0,12"} {
		for i := 0; i <= len(text); i++ {
			for b := range 256 {
				checkParseRow(t, text[:i]+string([]byte{byte(b)})+text[i:])
				if i < len(text) {
					checkParseRow(t, text[:i]+string([]byte{byte(b)})+text[i+1:])
				}
			}
			if i < len(text) {
				checkParseRow(t, text[:i]+text[i+1:])
			}
			checkParseRow(t, text[:i])
			checkParseRow(t, text[i:])
		}
	}
}

func TestEqualRows(t *testing.T) {
	for _, c := range []struct {
		why  string
		a, b []impl.Row
		want bool
	}{
		{"no rows", nil, nil, true},
		{"no rows", nil, []impl.Row{}, true},
		{"no rows and one", nil, []impl.Row{{}}, false},
		{"one row", []impl.Row{row(5, 1, 2, 3)}, []impl.Row{row(5, 1, 2, 3)}, true},
		{"two rows", []impl.Row{row(5, 1, 2, 3), row(6, 1, 2, 3)}, []impl.Row{row(5, 1, 2, 3), row(6, 1, 2, 3)}, true},
		{"another order", []impl.Row{row(5, 1, 2, 3), row(6, 1, 2, 3)}, []impl.Row{row(6, 1, 2, 3), row(5, 1, 2, 3)}, false},
		{"one list begins with the other", []impl.Row{row(5, 1, 2, 3), row(6, 1, 2, 3)}, []impl.Row{row(5, 1, 2, 3)}, false},
		{"one row twice", []impl.Row{row(5, 1, 2, 3), row(5, 1, 2, 3)}, []impl.Row{row(5, 1, 2, 3)}, false},
		{"equal numbers with different values", []impl.Row{row(5, 1, 2, 3)}, []impl.Row{row(5, 1, 2, 4)}, false},
		{"equal numbers with different values", []impl.Row{row(5, 1, 2, 3)}, []impl.Row{row(5, 3, 2, 1)}, false},
		{"different numbers with equal values", []impl.Row{row(5, 1, 2, 3)}, []impl.Row{row(4, 1, 2, 3)}, false},
		{"the second row differs", []impl.Row{row(5, 1, 2, 3), row(6, 1, 2, 3)}, []impl.Row{row(5, 1, 2, 3), row(6, 1, 0, 3)}, false},
		{"the numbers changed places with a value", []impl.Row{row(1, 2, 2, 2)}, []impl.Row{row(2, 1, 2, 2)}, false},
		{"zero rows", []impl.Row{{}}, []impl.Row{{}}, true},
		{"the forms of an empty list", []impl.Row{{Id: 1}}, []impl.Row{{Id: 1, Values: []int{}}}, true},
		{"a missing value is not 0", []impl.Row{row(1)}, []impl.Row{row(1, 0)}, false},
		{"a missing value is not 0", []impl.Row{row(1, 0, 0)}, []impl.Row{row(1, 0, 0, 0)}, false},
		{"a missing value is not 0", []impl.Row{row(1, 0, 0, 0)}, []impl.Row{row(1, 0, 0, 0, 0)}, false},
		{"a fourth value", []impl.Row{row(1, 0, 0, 0, 8)}, []impl.Row{row(1, 0, 0, 0, 8)}, true},
		{"a fourth value differs", []impl.Row{row(1, 0, 0, 0, 8)}, []impl.Row{row(1, 0, 0, 0, 9)}, false},
		{"a hundredth value differs", []impl.Row{row(1, append(make([]int, 99), 1)...)}, []impl.Row{row(1, make([]int, 100)...)}, false},
		{"numbers out of range", []impl.Row{row(-1, math.MinInt, 100, math.MaxInt)}, []impl.Row{row(-1, math.MinInt, 100, math.MaxInt)}, true},
		{"numbers out of range", []impl.Row{row(math.MinInt, 1, 2, 3)}, []impl.Row{row(math.MaxInt, 1, 2, 3)}, false},
		{"values out of range", []impl.Row{row(1, 100, 2, 3)}, []impl.Row{row(1, 101, 2, 3)}, false},
		{"values out of range", []impl.Row{row(1, -1, 2, 3)}, []impl.Row{row(1, 0, 2, 3)}, false},
		{"values that agree in 32 bits", []impl.Row{row(1, 1<<32, 2, 3)}, []impl.Row{row(1, 0, 2, 3)}, false},
		{"more rows than a valid list has", ascending(0, 99), ascending(0, 99), true},
		{"the last of many rows differs", ascending(0, 99), append(ascending(0, 98), row(98, 1, 1, 1)), false},
	} {
		for range 2 {
			if got := impl.EqualRows(c.a, c.b); got != c.want {
				t.Errorf("%s: EqualRows(%v, %v) = %v", c.why, c.a, c.b, got)
			}
			c.a, c.b = c.b, c.a
		}
	}
}

// TestEqualRowsOnAllPairs holds each pair of small rows, alone and between others, against their texts.
func TestEqualRowsOnAllPairs(t *testing.T) {
	rows := smallRows()
	around := row(5, 1, 2, 3)
	for _, a := range rows {
		for _, b := range rows {
			want := rowText(a) == rowText(b)
			if got := impl.EqualRows([]impl.Row{a}, []impl.Row{b}); got != want {
				t.Fatalf("EqualRows of %v and %v = %v", a, b, got)
			}
			if got := impl.EqualRows([]impl.Row{around, a, around}, []impl.Row{around, b, around}); got != want {
				t.Fatalf("EqualRows of %v and %v between others = %v", a, b, got)
			}
		}
	}
}

func TestSortRows(t *testing.T) {
	for _, c := range []struct {
		why     string
		l, want []impl.Row
	}{
		{"no rows", nil, nil},
		{"no rows", []impl.Row{}, nil},
		{"one row", []impl.Row{row(5, 1, 2, 3)}, []impl.Row{row(5, 1, 2, 3)}},
		{
			"by numbers",
			[]impl.Row{row(3, 0, 0, 0), row(1, 9, 9, 9), row(2, 5, 5, 5)},
			[]impl.Row{row(1, 9, 9, 9), row(2, 5, 5, 5), row(3, 0, 0, 0)},
		},
		{
			"numbers not as text",
			[]impl.Row{row(10, 0, 0, 0), row(9, 0, 0, 0), row(100, 0, 0, 0)},
			[]impl.Row{row(9, 0, 0, 0), row(10, 0, 0, 0), row(100, 0, 0, 0)},
		},
		{
			"equal numbers with different values",
			[]impl.Row{row(5, 2, 0, 0), row(5, 1, 9, 9), row(5, 1, 0, 5), row(5, 1, 9, 0), row(4, 9, 9, 9), row(5, 1, 0, 4)},
			[]impl.Row{row(4, 9, 9, 9), row(5, 1, 0, 4), row(5, 1, 0, 5), row(5, 1, 9, 0), row(5, 1, 9, 9), row(5, 2, 0, 0)},
		},
		{
			"values not as text",
			[]impl.Row{row(5, 10, 0, 0), row(5, 9, 0, 0)},
			[]impl.Row{row(5, 9, 0, 0), row(5, 10, 0, 0)},
		},
		{
			"equal rows all stay",
			[]impl.Row{row(5, 1, 1, 1), row(4, 1, 1, 1), row(5, 1, 1, 1), row(4, 1, 1, 1)},
			[]impl.Row{row(4, 1, 1, 1), row(4, 1, 1, 1), row(5, 1, 1, 1), row(5, 1, 1, 1)},
		},
		{
			"a list before the longer ones that begin with it",
			[]impl.Row{row(1, 0, 0, 0, 0), row(1, 0, 0), row(1), row(1, 0, 0, 0), row(1, 0)},
			[]impl.Row{row(1), row(1, 0), row(1, 0, 0), row(1, 0, 0, 0), row(1, 0, 0, 0, 0)},
		},
		{
			"a value that differs before the lengths",
			[]impl.Row{row(1, 1), row(1, 0, 5, 5, 5, 5), row(1, 2, 0), row(1, 1, -1)},
			[]impl.Row{row(1, 0, 5, 5, 5, 5), row(1, 1), row(1, 1, -1), row(1, 2, 0)},
		},
		{
			"a fourth value",
			[]impl.Row{row(1, 0, 0, 0, 7), row(1, 0, 0, 0, 6)},
			[]impl.Row{row(1, 0, 0, 0, 6), row(1, 0, 0, 0, 7)},
		},
		{
			"the ends of the range of int",
			[]impl.Row{row(math.MaxInt), row(0), row(-1), row(math.MinInt), row(0, math.MaxInt), row(0, math.MinInt), row(0, -2)},
			[]impl.Row{row(math.MinInt), row(-1), row(0), row(0, math.MinInt), row(0, -2), row(0, math.MaxInt), row(math.MaxInt)},
		},
	} {
		if got := impl.SortRows(c.l); rowsText(got) != rowsText(c.want) {
			t.Errorf("%s: SortRows(%v) = %v, want %v", c.why, c.l, got, c.want)
		}
	}
}

// TestSortRowsOnAllOrders sorts some rows from every order in which they may come.
func TestSortRowsOnAllOrders(t *testing.T) {
	sorted := []impl.Row{row(-1, 9), row(5), row(5, 1, 2), row(5, 1, 2, 3), row(5, 1, 2, 3), row(5, 1, 3), row(6, 0, 0, 0)}
	want := rowsText(sorted)
	var arrange func(l []impl.Row, rest []impl.Row)
	arrange = func(l []impl.Row, rest []impl.Row) {
		if len(rest) == 0 {
			if got := rowsText(impl.SortRows(l)); got != want {
				t.Fatalf("SortRows(%v) = %s", l, got)
			}
		}
		for i, r := range rest {
			arrange(append(slices.Clone(l), r), append(slices.Clone(rest[:i]), rest[i+1:]...))
		}
	}
	arrange(nil, sorted)
}

// TestSortRowsOnManyRows sorts long lists, and holds neighbours and the number of each row against the argument.
func TestSortRowsOnManyRows(t *testing.T) {
	small := smallRows()
	backward := slices.Clone(small)
	slices.Reverse(backward)
	var mixed []impl.Row
	for i := range small {
		mixed = append(mixed, small[i*7%len(small)], small[i*5%len(small)])
	}
	for _, l := range [][]impl.Row{small, backward, mixed, goodRows()} {
		sorted := impl.SortRows(l)
		for i := 1; i < len(sorted); i++ {
			if isBefore(sorted[i], sorted[i-1]) {
				t.Fatalf("%v before %v", sorted[i-1], sorted[i])
			}
		}
		count := map[string]int{}
		for _, r := range l {
			count[rowText(r)]++
		}
		for _, r := range sorted {
			count[rowText(r)]--
		}
		for text, n := range count {
			if n != 0 {
				t.Fatalf("%s: %d of them are missing", text, n)
			}
		}
	}
}

// TestRowsAreLeftAlone watches the arguments, their unused capacity included, while a result is written to.
func TestRowsAreLeftAlone(t *testing.T) {
	values := []int{9, 8, 7, 6, 5}
	shared := impl.Row{Id: 3, Values: values[:3]}
	whole := []impl.Row{shared, {Id: 2, Values: values[:0]}, shared, row(1, 1, 2, 3), row(7, 7, 7, 7)}
	before, valuesBefore := rowsText(whole), slices.Clone(values)
	for range 2 {
		rows := whole[:4]
		impl.IsRow(shared)
		impl.AreRows(rows)
		impl.FormatRow(shared)
		impl.EqualRows(rows, whole)
		sorted := impl.SortRows(rows)
		for i := range sorted {
			for j := range sorted[i].Values {
				sorted[i].Values[j] = -5
			}
			_ = append(sorted[i].Values, -6)
			sorted[i].Id = -7
		}
		_ = append(sorted, row(-8, -8))
		if rowsText(whole) != before || !slices.Equal(values, valuesBefore) {
			t.Fatalf("an argument changed: %v, %v", whole, values)
		}
	}
}

// TestSortedRowsShareNothing gives rows of one memory, and writes to the values of one row of the result.
func TestSortedRowsShareNothing(t *testing.T) {
	values := make([]int, 3, 9)
	sorted := impl.SortRows([]impl.Row{{Id: 2, Values: values}, {Id: 1, Values: values}, {Id: 3, Values: values[:2]}})
	sorted[0].Values[0] = 5
	_ = append(sorted[0].Values, 6, 6, 6, 6)
	if got := rowsText(sorted); got != "1:[5 0 0] 2:[0 0 0] 3:[0 0]" {
		t.Errorf("rows share memory: %s", got)
	}
	a, _ := impl.ParseRow("1:2,3,4")
	b, _ := impl.ParseRow("1:2,3,4")
	a.Values[0] = 50
	if rowText(b) != "1:[2 3 4]" {
		t.Errorf("two results share memory: %v", b)
	}
}
