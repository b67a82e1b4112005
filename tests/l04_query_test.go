package tests

import (
	"fmt"
	"math"
	"regexp"
	"slices"
	"strconv"
	"strings"
	"testing"

	"loop.example/g01986/impl"
)

func cond(field, low, high int) impl.Cond {
	return impl.Cond{Field: field, Low: low, High: high}
}

// query returns a query of all fields, with any conditions.
func query(id, tenant int, conds ...impl.Cond) impl.Query {
	return impl.Query{Id: id, Tenant: tenant, Conds: conds, Out: []int{0, 1, 2}}
}

// queryOut returns a query without conditions.
func queryOut(fields ...int) impl.Query { return impl.Query{Out: fields} }

// goodConds are lists of conditions that a valid query may have, with the empty list and numbers at the limits among them.
var goodConds = [][]impl.Cond{
	nil,
	{},
	{cond(0, 0, 0)},
	{cond(1, 0, 99)},
	{cond(2, 99, 99)},
	{cond(0, 2, 5), cond(2, 0, 9)},
	{cond(0, 98, 99), cond(1, 10, 10)},
	{cond(1, 5, 50), cond(2, 50, 99)},
	{cond(0, 0, 99), cond(1, 0, 99), cond(2, 0, 99)},
	{cond(0, 5, 5), cond(1, 9, 10), cond(2, 11, 90)},
}

// badConds are lists of conditions that no valid query has.
var badConds = []struct {
	why string
	l   []impl.Cond
}{
	{"four conditions", []impl.Cond{cond(0, 0, 1), cond(1, 0, 1), cond(2, 0, 1), cond(3, 0, 1)}},
	{"four conditions", make([]impl.Cond, 4)},
	{"many conditions", make([]impl.Cond, 1000)},
	{"the last of three twice", []impl.Cond{cond(0, 0, 1), cond(1, 0, 1), cond(2, 0, 1), cond(2, 0, 1)}},
	{"a field twice", []impl.Cond{cond(1, 0, 1), cond(1, 0, 1)}},
	{"a field twice, with different ranges", []impl.Cond{cond(1, 0, 5), cond(1, 3, 9)}},
	{"a field twice behind another", []impl.Cond{cond(0, 0, 1), cond(2, 0, 1), cond(2, 2, 3)}},
	{"descending", []impl.Cond{cond(1, 1, 2), cond(0, 1, 2)}},
	{"descending, with ascending ranges", []impl.Cond{cond(2, 0, 1), cond(1, 2, 3), cond(0, 4, 5)}},
	{"descending at the end", []impl.Cond{cond(0, 0, 1), cond(2, 0, 1), cond(1, 0, 1)}},
	{"descending around the middle", []impl.Cond{cond(1, 0, 1), cond(2, 0, 1), cond(0, 0, 1)}},
	{"a field below the first", []impl.Cond{cond(-1, 0, 1)}},
	{"a field below the first, in order", []impl.Cond{cond(-1, 0, 1), cond(0, 0, 1)}},
	{"a field beyond the last", []impl.Cond{cond(3, 0, 1)}},
	{"a field beyond the last, in order", []impl.Cond{cond(0, 0, 1), cond(3, 0, 1)}},
	{"the greatest int as a field", []impl.Cond{cond(math.MaxInt, 0, 1)}},
	{"the least int as a field", []impl.Cond{cond(math.MinInt, 0, 1)}},
	{"Low above High", []impl.Cond{cond(0, 2, 1)}},
	{"Low above High in the last one", []impl.Cond{cond(0, 1, 2), cond(1, 1, 2), cond(2, 99, 98)}},
	{"a negative Low", []impl.Cond{cond(0, -1, 1)}},
	{"a negative range", []impl.Cond{cond(0, -2, -1)}},
	{"High beyond the limit", []impl.Cond{cond(0, 0, 100)}},
	{"a range beyond the limit", []impl.Cond{cond(0, 100, 100)}},
	{"the range of int", []impl.Cond{cond(0, math.MinInt, math.MaxInt)}},
	{"a good one and one beyond the limit", []impl.Cond{cond(0, 0, 99), cond(1, 0, 100)}},
}

var badOuts = [][]int{
	nil,
	{},
	{-1},
	{3},
	{0, 3},
	{-1, 0},
	{0, 1, 3},
	{0, -1, 2},
	{0, 1, 2, 0},
	{0, 0, 0, 0},
	{math.MinInt},
	{math.MaxInt},
	{1 << 32},
	{0, 1, 2, 3},
	make([]int, 100),
}

// badQueries are queries that no function takes for valid, each for one reason alone; the zero query has no Out.
func badQueries() []impl.Query {
	l := []impl.Query{{}, {Id: 3, Tenant: 1, Conds: []impl.Cond{cond(0, 2, 5)}}}
	for _, id := range []int{-1, 24, 25, 31, 32, 64, math.MinInt, math.MaxInt} {
		l = append(l, query(id, 1), query(id, 0, cond(0, 0, 99)))
	}
	for _, tenant := range []int{-1, 4, 5, 64, math.MinInt, math.MaxInt} {
		l = append(l, query(3, tenant), query(0, tenant, cond(0, 0, 99)))
	}
	for _, c := range badConds {
		l = append(l, query(3, 1, c.l...))
	}
	for _, out := range badOuts {
		l = append(l, impl.Query{Id: 3, Tenant: 1, Out: out}, impl.Query{Conds: []impl.Cond{cond(0, 0, 99)}, Out: out})
	}
	return l
}

// listsOf returns all lists of at most so many of the numbers.
func listsOf(numbers []int, length int) [][]int {
	lists := [][]int{nil}
	for begin := 0; length > 0; length-- {
		end := len(lists)
		for ; begin < end; begin++ {
			for _, x := range numbers {
				lists = append(lists, append(slices.Clone(lists[begin]), x))
			}
		}
	}
	return lists
}

// goodQueries are valid, with all forms of Out and numbers at the limits among them.
func goodQueries() []impl.Query {
	var l []impl.Query
	for _, out := range listsOf([]int{0, 1, 2}, 3)[1:] {
		for _, conds := range goodConds {
			l = append(l, impl.Query{Id: len(l) % 24, Tenant: len(l) % 4, Conds: conds, Out: out})
		}
	}
	for id := range 24 {
		for tenant := range 4 {
			l = append(l, query(id, tenant), query(id, tenant, cond(id%3, id, 99-id)))
		}
	}
	return l
}

// queryDump writes any query without the empty forms of a list being different.
func queryDump(q impl.Query) string {
	return fmt.Sprintf("%d %d %v %v", q.Id, q.Tenant, q.Conds, q.Out)
}

// isCondOf is an independent statement of IsCond.
func isCondOf(c impl.Cond) bool {
	return c.Field >= 0 && c.Field <= 2 && c.Low >= 0 && c.High >= c.Low && c.High <= 99
}

// isOutOf is an independent statement of what IsQuery says of Out.
func isOutOf(l []int) bool {
	return len(l) >= 1 && len(l) <= 3 && slices.Min(l) >= 0 && slices.Max(l) <= 2
}

// queryTextOf is an independent statement of FormatQuery for a valid query.
func queryTextOf(q impl.Query) string {
	text := fmt.Sprintf("q%d t%d ", q.Id, q.Tenant)
	for _, c := range q.Conds {
		text += fmt.Sprintf("f%d %d..%d ", c.Field, c.Low, c.High)
	}
	return text + "out " + strings.Trim(strings.ReplaceAll(fmt.Sprint(q.Out), " ", ","), "[]")
}

var (
	queryForm = regexp.MustCompile(`\Aq(0|1?[1-9]|10|2[0-3]) t([0-3])( f0 (\d|[1-9]\d)\.\.(\d|[1-9]\d))?( f1 (\d|[1-9]\d)\.\.(\d|[1-9]\d))?( f2 (\d|[1-9]\d)\.\.(\d|[1-9]\d))? out ([0-2](,[0-2]){0,2})\z`)
	// condForm is that of a condition in a text that has queryForm.
	condForm = regexp.MustCompile(`f(\d) (\d+)\.\.(\d+)`)
)

// readQuery is an independent statement of ParseQuery.
func readQuery(s string) (impl.Query, bool) {
	parts := queryForm.FindStringSubmatch(s)
	if parts == nil {
		return impl.Query{}, false
	}
	q := impl.Query{}
	q.Id, _ = strconv.Atoi(parts[1])
	q.Tenant, _ = strconv.Atoi(parts[2])
	for _, c := range condForm.FindAllStringSubmatch(s, -1) {
		field, _ := strconv.Atoi(c[1])
		low, _ := strconv.Atoi(c[2])
		high, _ := strconv.Atoi(c[3])
		if low > high {
			return impl.Query{}, false
		}
		q.Conds = append(q.Conds, cond(field, low, high))
	}
	for _, field := range strings.Split(parts[12], ",") {
		x, _ := strconv.Atoi(field)
		q.Out = append(q.Out, x)
	}
	return q, true
}

// checkParseQuery holds ParseQuery of one string against readQuery.
func checkParseQuery(t *testing.T, s string) {
	t.Helper()
	want, wantOk := readQuery(s)
	if got, ok := impl.ParseQuery(s); ok != wantOk || queryDump(got) != queryDump(want) {
		t.Fatalf("ParseQuery(%q) = %v, %v, want %v, %v", s, got, ok, want, wantOk)
	}
}

func TestQueryConstants(t *testing.T) {
	if impl.MaxTenants != 4 || impl.MaxConds != 3 {
		t.Errorf("MaxTenants, MaxConds = %d, %d", impl.MaxTenants, impl.MaxConds)
	}
}

func TestIsCond(t *testing.T) {
	for _, c := range []impl.Cond{{}, cond(2, 99, 99), cond(0, 0, 99), cond(1, 2, 5), cond(0, 7, 7)} {
		if !impl.IsCond(c) {
			t.Errorf("IsCond(%v) = false", c)
		}
	}
	for _, c := range []impl.Cond{
		cond(-1, 0, 1),
		cond(3, 0, 1),
		cond(0, 2, 1),
		cond(0, 99, 0),
		cond(0, -1, 1),
		cond(0, -1, -1),
		cond(0, 0, 100),
		cond(0, 100, 100),
		cond(0, 0, math.MaxInt),
		cond(0, math.MinInt, 0),
		cond(0, math.MinInt, math.MaxInt),
		cond(0, math.MaxInt, math.MinInt),
		cond(math.MinInt, 0, 1),
		cond(math.MaxInt, 0, 1),
		cond(0, 1<<32, 1<<32),
		cond(1<<32, 0, 1),
	} {
		if impl.IsCond(c) {
			t.Errorf("IsCond(%v) = true", c)
		}
	}
	for field := -2; field <= 5; field++ {
		for low := -3; low <= 103; low++ {
			for high := -3; high <= 103; high++ {
				c := cond(field, low, high)
				if got, want := impl.IsCond(c), isCondOf(c); got != want {
					t.Fatalf("IsCond(%v) = %v", c, got)
				}
			}
		}
	}
}

func TestIsQuery(t *testing.T) {
	for _, q := range goodQueries() {
		if !impl.IsQuery(q) {
			t.Errorf("IsQuery(%v) = false", q)
		}
	}
	for _, q := range badQueries() {
		if impl.IsQuery(q) {
			t.Errorf("IsQuery(%v) = true", q)
		}
	}
}

// TestIsQueryOfAllNumbers tries each number around the range as Id and as Tenant.
func TestIsQueryOfAllNumbers(t *testing.T) {
	for n := -70; n <= 300; n++ {
		if got := impl.IsQuery(query(n, 1)); got != (n >= 0 && n <= 23) {
			t.Errorf("IsQuery with the Id %d = %v", n, got)
		}
		if got := impl.IsQuery(query(1, n)); got != (n >= 0 && n <= 3) {
			t.Errorf("IsQuery with the tenant %d = %v", n, got)
		}
	}
}

// TestIsQueryOfAllLists tries all short lists of fields, as the fields of conditions and as Out.
func TestIsQueryOfAllLists(t *testing.T) {
	for _, fields := range listsOf([]int{-1, 0, 1, 2, 3}, 5) {
		q := query(1, 1)
		for _, field := range fields {
			q.Conds = append(q.Conds, cond(field, 1, 2))
		}
		ascends := true
		for i, field := range fields {
			ascends = ascends && field >= 0 && field <= 2 && (i == 0 || fields[i-1] < field)
		}
		if got := impl.IsQuery(q); got != ascends {
			t.Errorf("IsQuery with conditions on the fields %v = %v", fields, got)
		}
		if got := impl.IsQuery(queryOut(fields...)); got != isOutOf(fields) {
			t.Errorf("IsQuery with Out %v = %v", fields, got)
		}
	}
}

// queriesFrom returns so many queries without conditions, with the Ids first, first+1 and so on.
func queriesFrom(first, count int) []impl.Query {
	var l []impl.Query
	for i := range count {
		l = append(l, query(first+i, (3*i+3)%4))
	}
	return l
}

func TestAreQueries(t *testing.T) {
	for _, l := range [][]impl.Query{
		nil,
		{},
		{query(0, 0)},
		{query(23, 3)},
		{query(0, 3, cond(1, 5, 5)), query(23, 0)},
		{query(4, 3, cond(0, 0, 99)), queryWithId(5, queryOut(2))},
		queriesFrom(0, 23),
		queriesFrom(1, 23),
		queriesFrom(0, 24),
	} {
		if !impl.AreQueries(l) {
			t.Errorf("AreQueries(%v) = false", l)
		}
	}
}

func queryWithId(id int, q impl.Query) impl.Query {
	q.Id = id
	return q
}

func TestAreQueriesRefuses(t *testing.T) {
	for _, c := range []struct {
		why string
		l   []impl.Query
	}{
		{"one query too many", queriesFrom(0, 25)},
		{"one query too many", append(queriesFrom(0, 24), query(23, 0))},
		{"far too many queries", make([]impl.Query, 1000)},
		{"one query twice", []impl.Query{query(1, 1), query(1, 1)}},
		{"equal numbers with different tenants", []impl.Query{query(1, 1), query(1, 2)}},
		{"equal numbers with different conditions", []impl.Query{query(1, 1), query(1, 1, cond(0, 0, 9))}},
		{"equal numbers at the end", append(queriesFrom(0, 5), query(4, 2))},
		{"descending", []impl.Query{query(2, 0), query(1, 1)}},
		{"descending at the end", append(queriesFrom(5, 5), query(4, 0))},
		{"descending in the middle", []impl.Query{query(1, 0), query(5, 0), query(3, 0), query(9, 0)}},
		{"beyond the greatest number", queriesFrom(20, 5)},
		{"before the least number", queriesFrom(-1, 3)},
	} {
		if impl.AreQueries(c.l) {
			t.Errorf("%s: AreQueries(%v) = true", c.why, c.l)
		}
	}
	for _, bad := range badQueries() {
		for _, l := range [][]impl.Query{{bad}, {bad, query(20, 0)}, {query(0, 0), bad}, {query(0, 0), bad, query(20, 0)}} {
			if impl.AreQueries(l) {
				t.Errorf("AreQueries(%v) = true", l)
			}
		}
	}
}

func TestMatchesRow(t *testing.T) {
	three := query(3, 1, cond(0, 2, 5), cond(1, 7, 7), cond(2, 0, 9))
	for _, c := range []struct {
		why  string
		q    impl.Query
		r    impl.Row
		want bool
	}{
		{"a query without conditions", query(3, 1), row(1, 50, 0, 99), true},
		{"a query without conditions", queryOut(2), row(0, 0, 0, 0), true},
		{"a query with an empty list of conditions", impl.Query{Conds: []impl.Cond{}, Out: []int{0}}, row(999, 99, 99, 99), true},
		{"all conditions", three, row(1, 3, 7, 5), true},
		{"Low", three, row(1, 2, 7, 0), true},
		{"High", three, row(1, 5, 7, 9), true},
		{"below the first Low", three, row(1, 1, 7, 5), false},
		{"above the first High", three, row(1, 6, 7, 5), false},
		{"below the second Low", three, row(1, 3, 6, 5), false},
		{"above the second High", three, row(1, 3, 8, 5), false},
		{"above the last High", three, row(1, 3, 7, 10), false},
		{"no condition", three, row(1, 90, 90, 90), false},
		{"the values of other fields", three, row(1, 7, 5, 3), false},
		{"only a field in between is free", query(3, 1, cond(0, 2, 5), cond(2, 0, 9)), row(1, 2, 99, 9), true},
		{"the last field alone", query(3, 1, cond(2, 8, 9)), row(1, 0, 0, 8), true},
		{"the last field alone", query(3, 1, cond(2, 8, 9)), row(1, 8, 8, 7), false},
		{"the number does not count", query(3, 1, cond(0, 2, 5)), row(3, 1, 2, 3), false},
		{"the least values", query(0, 0, cond(0, 0, 0), cond(1, 0, 0), cond(2, 0, 0)), row(0, 0, 0, 0), true},
		{"the greatest values", query(23, 3, cond(0, 99, 99), cond(1, 99, 99), cond(2, 99, 99)), row(999, 99, 99, 99), true},
		{"fields that are not in Out", impl.Query{Conds: []impl.Cond{cond(0, 2, 5)}, Out: []int{1}}, row(1, 6, 3, 3), false},
	} {
		if got := impl.MatchesRow(c.q, c.r); got != c.want {
			t.Errorf("%s: MatchesRow(%v, %v) = %v", c.why, c.q, c.r, got)
		}
	}
}

func TestMatchesRowRefuses(t *testing.T) {
	for _, q := range badQueries() {
		if impl.MatchesRow(q, row(1, 1, 1, 1)) {
			t.Errorf("MatchesRow(%v) = true for a query that is not valid", q)
		}
	}
	for _, r := range badRows {
		for _, q := range []impl.Query{query(3, 1), query(3, 1, cond(0, 0, 99)), query(3, 1, cond(0, 0, 99), cond(1, 0, 99), cond(2, 0, 99))} {
			if impl.MatchesRow(q, r) {
				t.Errorf("MatchesRow(%v, %v) = true for a row that is not valid", q, r)
			}
		}
	}
	if impl.MatchesRow(impl.Query{}, impl.Row{}) {
		t.Error("MatchesRow of the zero values = true")
	}
}

// TestMatchesRowOnAllRanges tries each value of each field with each range.
func TestMatchesRowOnAllRanges(t *testing.T) {
	others := []int{0, 42, 99}
	for field := range 3 {
		for low := range 100 {
			for high := low; high < 100; high += 3 {
				q := query(1, 1, cond(field, low, high))
				for v := range 100 {
					r := row(v, slices.Clone(others)...)
					r.Values[field] = v
					if got := impl.MatchesRow(q, r); got != (v >= low && v <= high) {
						t.Fatalf("MatchesRow(%v, %v) = %v", q, r, got)
					}
				}
			}
		}
	}
}

// TestMatchesRowNeedsAllConditions holds queries with several conditions against those with one of them.
func TestMatchesRowNeedsAllConditions(t *testing.T) {
	for _, q := range goodQueries() {
		for _, r := range goodRows()[:216] {
			want := true
			for _, c := range q.Conds {
				want = want && impl.MatchesRow(query(q.Id, q.Tenant, c), r)
			}
			if got := impl.MatchesRow(q, r); got != want {
				t.Fatalf("MatchesRow(%v, %v) = %v", q, r, got)
			}
		}
	}
}

func TestProjectRow(t *testing.T) {
	r := row(5, 10, 20, 30)
	for _, c := range []struct {
		why  string
		q    impl.Query
		want []int
	}{
		{"one field", queryOut(0), []int{10}},
		{"one field", queryOut(2), []int{30}},
		{"all fields", queryOut(0, 1, 2), []int{10, 20, 30}},
		{"another order", queryOut(2, 0, 1), []int{30, 10, 20}},
		{"descending", queryOut(1, 0), []int{20, 10}},
		{"a field twice", queryOut(1, 1), []int{20, 20}},
		{"a field three times", queryOut(2, 2, 2), []int{30, 30, 30}},
		{"a field at both ends", queryOut(0, 2, 0), []int{10, 30, 10}},
		{"conditions do not count", impl.Query{Conds: []impl.Cond{cond(0, 0, 5)}, Out: []int{1, 0}}, []int{20, 10}},
	} {
		if got := impl.ProjectRow(c.q, r); !slices.Equal(got, c.want) {
			t.Errorf("%s: ProjectRow(%v, %v) = %v, want %v", c.why, c.q, r, got, c.want)
		}
	}
	for _, q := range goodQueries() {
		got := impl.ProjectRow(q, r)
		for i, field := range q.Out {
			if len(got) != len(q.Out) || got[i] != 10*field+10 {
				t.Fatalf("ProjectRow(%v, %v) = %v", q, r, got)
			}
		}
	}
}

func TestProjectRowRefuses(t *testing.T) {
	for _, q := range badQueries() {
		if got := impl.ProjectRow(q, row(1, 1, 1, 1)); len(got) != 0 {
			t.Errorf("ProjectRow(%v) = %v for a query that is not valid", q, got)
		}
	}
	for _, r := range badRows {
		for _, q := range []impl.Query{queryOut(0), queryOut(2, 1, 0), query(3, 1, cond(0, 0, 99))} {
			if got := impl.ProjectRow(q, r); len(got) != 0 {
				t.Errorf("ProjectRow(%v, %v) = %v for a row that is not valid", q, r, got)
			}
		}
	}
}

// queryTexts are queries with their formats, the example and queries without conditions among them.
var queryTexts = []struct {
	q    impl.Query
	text string
}{
	{impl.Query{Id: 3, Tenant: 1, Conds: []impl.Cond{cond(0, 2, 5)}, Out: []int{1, 0}}, "q3 t1 f0 2..5 out 1,0"},
	{queryOut(0), "q0 t0 out 0"},
	{impl.Query{Id: 23, Tenant: 3, Conds: []impl.Cond{}, Out: []int{2, 2, 2}}, "q23 t3 out 2,2,2"},
	{impl.Query{Id: 3, Tenant: 1, Conds: []impl.Cond{cond(0, 2, 5), cond(2, 0, 9)}, Out: []int{1, 0}}, "q3 t1 f0 2..5 f2 0..9 out 1,0"},
	{query(10, 2, cond(0, 0, 0), cond(1, 0, 99), cond(2, 99, 99)), "q10 t2 f0 0..0 f1 0..99 f2 99..99 out 0,1,2"},
	{query(9, 0, cond(1, 9, 10)), "q9 t0 f1 9..10 out 0,1,2"},
}

func TestFormatQuery(t *testing.T) {
	for _, c := range queryTexts {
		if got := impl.FormatQuery(c.q); got != c.text {
			t.Errorf("FormatQuery(%v) = %q, want %q", c.q, got, c.text)
		}
	}
	for _, q := range badQueries() {
		if got := impl.FormatQuery(q); got != "" {
			t.Errorf("FormatQuery(%v) = %q", q, got)
		}
	}
}

func TestParseQuery(t *testing.T) {
	for _, c := range queryTexts {
		if got, ok := impl.ParseQuery(c.text); !ok || queryDump(got) != queryDump(c.q) {
			t.Errorf("ParseQuery(%q) = %v, %v, want %v", c.text, got, ok, c.q)
		}
	}
}

func TestParseQueryRefuses(t *testing.T) {
	for _, c := range []struct{ why, s string }{
		{"empty", ""},
		{"a space alone", " "},
		{"spaces alone", "   "},
		{"one word", "q0"},
		{"two words", "q0 t0"},
		{"the end alone", "out 0"},
		{"the word out alone", "out"},
		{"no Out", "q0 t0 out"},
		{"no Out behind a condition", "q0 t0 f0 1..2 out"},
		{"an empty Out", "q0 t0 out "},
		{"no word out", "q0 t0 0"},
		{"no word out behind a condition", "q0 t0 f0 1..2 0"},
		{"another word for out", "q0 t0 in 0"},
		{"another word for out", "q0 t0 Out 0"},
		{"another word for out", "q0 t0 outs 0"},
		{"the word out twice", "q0 t0 out 0 out 0"},
		{"the word out twice", "q0 t0 out out 0"},
		{"the word out joined to Out", "q0 t0 out0"},
		{"a condition behind Out", "q0 t0 out 0 f0 1..2"},
		{"no query", "t0 out 0"},
		{"no tenant", "q0 out 0"},
		{"no tenant before a condition", "q0 f0 1..2 out 0"},
		{"the tenant first", "t0 q0 out 0"},
		{"two queries", "q0 q0 out 0"},
		{"two tenants", "q0 t0 t0 out 0"},
		{"the condition first", "f0 1..2 q0 t0 out 0"},
		{"a condition before the tenant", "q0 f0 1..2 t0 out 0"},
		{"a condition without a range", "q0 t0 f0 out 0"},
		{"a range without a field", "q0 t0 1..2 out 0"},
		{"a field without a number", "q0 t0 f 1..2 out 0"},
		{"a field without its letter", "q0 t0 0 1..2 out 0"},
		{"a query without its letter", "0 t0 out 0"},
		{"a tenant without its letter", "q0 0 out 0"},
		{"a query without a number", "q t0 out 0"},
		{"a tenant without a number", "q0 t out 0"},
		{"capitals", "Q0 T0 OUT 0"},
		{"a capital", "Q0 t0 out 0"},
		{"a capital", "q0 t0 F0 1..2 out 0"},
		{"a letter twice", "qq0 t0 out 0"},
		{"a letter twice", "q0 t0 ff0 1..2 out 0"},
		{"one point", "q0 t0 f0 1.2 out 0"},
		{"three points", "q0 t0 f0 1...2 out 0"},
		{"four points", "q0 t0 f0 1....2 out 0"},
		{"a sign of two points", "q0 t0 f0 1\u20252 out 0"},
		{"a minus for two points", "q0 t0 f0 1-2 out 0"},
		{"points alone", "q0 t0 f0 .. out 0"},
		{"no Low", "q0 t0 f0 ..2 out 0"},
		{"no High", "q0 t0 f0 1.. out 0"},
		{"a single value", "q0 t0 f0 1 out 0"},
		{"three values", "q0 t0 f0 1..2..3 out 0"},
		{"Low above High", "q0 t0 f0 2..1 out 0"},
		{"a negative Low", "q0 t0 f0 -1..1 out 0"},
		{"a negative High", "q0 t0 f0 0..-1 out 0"},
		{"one beyond the greatest value", "q0 t0 f0 0..100 out 0"},
		{"one beyond the greatest value", "q0 t0 f0 100..100 out 0"},
		{"one beyond the last field", "q0 t0 f3 1..2 out 0"},
		{"a negative field", "q0 t0 f-1 1..2 out 0"},
		{"a field twice", "q0 t0 f1 1..2 f1 1..2 out 0"},
		{"descending fields", "q0 t0 f1 1..2 f0 1..2 out 0"},
		{"four conditions", "q0 t0 f0 1..2 f1 1..2 f2 1..2 f3 1..2 out 0"},
		{"four conditions", "q0 t0 f0 1..2 f1 1..2 f2 1..2 f2 1..2 out 0"},
		{"one beyond the greatest number", "q24 t0 out 0"},
		{"a negative number", "q-1 t0 out 0"},
		{"one beyond the last tenant", "q0 t4 out 0"},
		{"a negative tenant", "q0 t-1 out 0"},
		{"one beyond the last field in Out", "q0 t0 out 3"},
		{"a negative field in Out", "q0 t0 out -1"},
		{"four fields in Out", "q0 t0 out 0,1,2,0"},
		{"a comma alone", "q0 t0 out ,"},
		{"a comma in front", "q0 t0 out ,0"},
		{"a comma at the end", "q0 t0 out 0,"},
		{"two commas", "q0 t0 out 0,,1"},
		{"a space in Out", "q0 t0 out 0, 1"},
		{"spaces for commas", "q0 t0 out 0 1"},
		{"spaces for commas", "q0 t0 out 0 1 2"},
		{"another separator", "q0 t0 out 0;1"},
		{"a range in Out", "q0 t0 out 0..2"},
		{"space", " q0 t0 out 0"},
		{"space", "q0 t0 out 0 "},
		{"space", "q0  t0 out 0"},
		{"space", "q0 t0  out 0"},
		{"space", "q0 t0 out  0"},
		{"space", "q 0 t0 out 0"},
		{"space", "q0 t0 f 0 1..2 out 0"},
		{"space", "q0 t0 f0  1..2 out 0"},
		{"space", "q0 t0 f0 1.. 2 out 0"},
		{"no space", "q0t0 out 0"},
		{"no space", "q0 t0 f01..2 out 0"},
		{"tab", "q0\tt0\tout\t0"},
		{"newline", "q0 t0 out 0\n"},
		{"newline", "q0\nt0 out 0"},
		{"zero byte", "q0 t0 out 0\x00"},
		{"a space of another kind", "q0\u00a0t0 out 0"},
		{"leading zero", "q00 t0 out 0"},
		{"leading zero", "q03 t0 out 0"},
		{"leading zero", "q0 t01 out 0"},
		{"leading zero", "q0 t0 f01 1..2 out 0"},
		{"leading zero", "q0 t0 f0 01..2 out 0"},
		{"leading zero", "q0 t0 f0 1..02 out 0"},
		{"leading zero", "q0 t0 out 00"},
		{"leading zero", "q0 t0 out 0,01"},
		{"minus zero", "q-0 t0 out 0"},
		{"minus zero", "q0 t-0 out 0"},
		{"minus zero", "q0 t0 f-0 1..2 out 0"},
		{"minus zero", "q0 t0 f0 -0..2 out 0"},
		{"minus zero", "q0 t0 out -0"},
		{"plus", "q+1 t0 out 0"},
		{"plus", "q0 t0 f0 +1..2 out 0"},
		{"ten digits", "q0000000001 t0 out 0"},
		{"a number that wraps around to 1", "q18446744073709551617 t0 out 0"},
		{"a number that wraps around to 1", "q0 t0 f0 18446744073709551617..2 out 0"},
		{"a number that wraps around to 1", "q0 t0 out 18446744073709551617"},
		{"digits of another script", "q\u0661 t0 out 0"},
		{"a word in front", "admit 0 q0 t0 out 0"},
		{"a row", "0:0,0,0"},
		{"two queries", "q0 t0 out 0 q1 t0 out 0"},
		{"no valid text", "\xff"},
		{"no valid text", "q0 t0 out 0\xff"},
		{"no valid text", "q0 t0 \xff out 0"},
		{"many conditions", "q0 t0" + strings.Repeat(" f0 1..2", 100000) + " out 0"},
		{"many spaces", strings.Repeat(" ", 100000)},
		{"many fields in Out", "q0 t0 out 0" + strings.Repeat(",0", 100000)},
		{"many points", "q0 t0 f0 " + strings.Repeat(".", 100000) + " out 0"},
	} {
		q, ok := impl.ParseQuery(c.s)
		if ok || q.Id != 0 || q.Tenant != 0 || len(q.Conds) != 0 || len(q.Out) != 0 {
			t.Errorf("%s: ParseQuery(%.40q) = %v, %v", c.why, c.s, q, ok)
		}
	}
}

func TestQueryRoundTrip(t *testing.T) {
	queries := goodQueries()
	for low := range 100 {
		for high := low; high < 100; high++ {
			queries = append(queries, query(low%24, high%4, cond(0, low, high), cond(2, high-low, high)))
		}
	}
	for _, q := range queries {
		text := impl.FormatQuery(q)
		if want := queryTextOf(q); text != want {
			t.Fatalf("FormatQuery(%v) = %q, want %q", q, text, want)
		}
		if got, ok := impl.ParseQuery(text); !ok || queryDump(got) != queryDump(q) {
			t.Fatalf("ParseQuery(%q) = %v, %v, want %v", text, got, ok, q)
		}
	}
}

// TestParseQueryAcceptsNothingElse holds strings near the form against it: lists of words, and numbers in each place.
func TestParseQueryAcceptsNothingElse(t *testing.T) {
	words := []string{"", "q0", "q23", "q24", "t0", "t4", "f0", "f1", "f2", "f3", "1..2", "2..1", "out", "0", "2,1", "none"}
	allStrings([]string{" q3", " t1", " f0", " f2", " 2..5", " out", " 0,2", " "}, 6, func(s string) {
		checkParseQuery(t, strings.TrimPrefix(s, " "))
		checkParseQuery(t, "q3 t1"+s+" out 0")
	})
	for _, a := range words {
		for _, b := range words {
			for _, c := range words {
				for _, d := range words {
					checkParseQuery(t, strings.Join([]string{a, b, c, d}, " "))
					checkParseQuery(t, strings.Join([]string{"q3 t1", a, b, c, d, "out 0"}, " "))
				}
			}
		}
	}
	numbers := []string{"", "0", "1", "2", "3", "4", "9", "10", "19", "20", "23", "24", "99", "100", "00", "07", "-1", "-0", "+1", " 1", "1 ", "1\n", "1_0", "a", ".", "\u0661", "1000000000"}
	for _, a := range numbers {
		for _, b := range numbers {
			checkParseQuery(t, "q"+a+" t"+b+" out 0")
			checkParseQuery(t, "q3 t1 f"+a+" 1..2 f"+b+" 1..2 out 0")
			checkParseQuery(t, "q3 t1 f0 "+a+".."+b+" out 0")
			checkParseQuery(t, "q3 t1 f0 1"+a+".."+b+" f1 0..9 out 0")
			checkParseQuery(t, "q3 t1 out "+a+","+b)
			checkParseQuery(t, "q3 t1 out 0,"+a+","+b)
		}
	}
}

// TestParseQueryAfterOneEdit inserts, deletes and replaces each byte.
func TestParseQueryAfterOneEdit(t *testing.T) {
	for _, c := range queryTexts {
		text := c.text
		for i := 0; i <= len(text); i++ {
			for b := range 256 {
				checkParseQuery(t, text[:i]+string([]byte{byte(b)})+text[i:])
				if i < len(text) {
					checkParseQuery(t, text[:i]+string([]byte{byte(b)})+text[i+1:])
				}
			}
			if i < len(text) {
				checkParseQuery(t, text[:i]+text[i+1:])
			}
			checkParseQuery(t, text[:i])
			checkParseQuery(t, text[i:])
		}
	}
}

func TestAnswerAlone(t *testing.T) {
	narrow := query(3, 1, cond(0, 2, 5), cond(2, 0, 9))
	mixed := []impl.Row{row(7, 5, 1, 9), row(2, 6, 1, 9), row(5, 2, 99, 0), row(3, 2, 1, 10), row(5, 2, 98, 0)}
	for _, c := range []struct {
		why  string
		q    impl.Query
		l    []impl.Row
		want []impl.Row
	}{
		{"no rows", narrow, nil, nil},
		{"no rows and no conditions", query(3, 1), []impl.Row{}, nil},
		{"a query without conditions gets all rows", query(3, 1), mixed, []impl.Row{mixed[1], mixed[3], mixed[4], mixed[2], mixed[0]}},
		{"conditions", narrow, mixed, []impl.Row{mixed[4], mixed[2], mixed[0]}},
		{"no row matches", query(3, 1, cond(1, 50, 60)), mixed, nil},
		{"whole rows, whatever Out is", impl.Query{Out: []int{1}}, mixed[:1], mixed[:1]},
		{"equal rows all stay", narrow, []impl.Row{row(5, 2, 0, 0), row(4, 2, 0, 0), row(5, 2, 0, 0)}, []impl.Row{row(4, 2, 0, 0), row(5, 2, 0, 0), row(5, 2, 0, 0)}},
		{"numbers not as text", query(3, 1), []impl.Row{row(10, 0, 0, 0), row(9, 0, 0, 0)}, []impl.Row{row(9, 0, 0, 0), row(10, 0, 0, 0)}},
		{"values not as text", query(3, 1), []impl.Row{row(1, 10, 0, 0), row(1, 9, 0, 0)}, []impl.Row{row(1, 9, 0, 0), row(1, 10, 0, 0)}},
		{"rows that are not valid are left out", query(3, 1), append(slices.Clone(badRows), row(1, 1, 2, 3)), []impl.Row{row(1, 1, 2, 3)}},
		{"a row that is not valid between others", narrow, []impl.Row{row(5, 2, 0, 0), row(4, 2, 0), row(3, 2, 0, 0)}, []impl.Row{row(3, 2, 0, 0), row(5, 2, 0, 0)}},
		{"only rows that are not valid", query(3, 1), badRows, nil},
		{"more rows than a valid list has", query(3, 1), ascending(0, 99), ascending(0, 99)},
		{"many rows and a condition", query(3, 1, cond(0, 90, 99)), ascending(0, 99), ascending(0, 99)[90:]},
	} {
		if got := impl.AnswerAlone(c.q, c.l); rowsText(got) != rowsText(c.want) {
			t.Errorf("%s: AnswerAlone(%v, %v) = %v, want %v", c.why, c.q, c.l, got, c.want)
		}
	}
	for _, q := range badQueries() {
		if got := impl.AnswerAlone(q, mixed); len(got) != 0 {
			t.Errorf("AnswerAlone(%v) = %v for a query that is not valid", q, got)
		}
	}
}

// TestAnswerAloneOnManyRows holds it against MatchesRow of each row and SortRows.
func TestAnswerAloneOnManyRows(t *testing.T) {
	rows := slices.Concat(goodRows()[:300], smallRows(), goodRows()[200:400], badRows)
	slices.Reverse(rows)
	for _, q := range append(goodQueries(), badQueries()...) {
		var matching []impl.Row
		for _, r := range rows {
			if impl.MatchesRow(q, r) {
				matching = append(matching, r)
			}
		}
		if got := impl.AnswerAlone(q, rows); rowsText(got) != rowsText(impl.SortRows(matching)) {
			t.Fatalf("AnswerAlone(%v) = %v", q, got)
		}
	}
}

// TestQueriesAreLeftAlone watches the arguments, their unused capacity included, while a result is written to.
func TestQueriesAreLeftAlone(t *testing.T) {
	conds := []impl.Cond{cond(0, 2, 5), cond(2, 0, 9), cond(7, 7, 7)}
	out := []int{1, 0, 2, 9}
	values := []int{3, 8, 7, 6, 5}
	rows := []impl.Row{{Id: 3, Values: values[:3]}, {Id: 2, Values: values[:3]}, row(1, 9, 9, 9), row(7, 7, 7, 7)}
	q := impl.Query{Id: 3, Tenant: 1, Conds: conds[:2], Out: out[:3]}
	queries := []impl.Query{q, query(4, 1), {}}
	state := func() string {
		return fmt.Sprint(conds, out, values, rowsText(rows), queries)
	}
	before := state()
	for range 2 {
		impl.IsQuery(q)
		impl.AreQueries(queries[:2])
		impl.MatchesRow(q, rows[0])
		impl.FormatQuery(q)
		projected := impl.ProjectRow(q, rows[0])
		projected[0] = -5
		_ = append(projected, -6)
		answer := impl.AnswerAlone(q, rows[:3])
		for i := range answer {
			answer[i].Id = -7
			answer[i].Values[0] = -8
			_ = append(answer[i].Values, -9)
		}
		_ = append(answer, row(-10, -10))
		if state() != before {
			t.Fatalf("an argument changed: %s, was %s", state(), before)
		}
	}
}

// TestAnswersShareNothing writes to one row of a result, or to one result, and looks at the others.
func TestAnswersShareNothing(t *testing.T) {
	values := make([]int, 3, 9)
	answer := impl.AnswerAlone(query(3, 1), []impl.Row{{Id: 2, Values: values}, {Id: 1, Values: values}})
	answer[0].Values[0] = 5
	_ = append(answer[0].Values, 6, 6, 6, 6)
	if got := rowsText(answer); got != "1:[5 0 0] 2:[0 0 0]" {
		t.Errorf("rows share memory: %s", got)
	}
	text := "q3 t1 f0 2..5 out 1,0"
	a, _ := impl.ParseQuery(text)
	b, _ := impl.ParseQuery(text)
	a.Conds[0].Low = 50
	a.Out[0] = 50
	if impl.FormatQuery(b) != text {
		t.Errorf("two results share memory: %v", b)
	}
}
