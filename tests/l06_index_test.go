package tests

import (
	"fmt"
	"math"
	"slices"
	"testing"

	"loop.example/g01986/impl"
)

// probeOrders are all orders of the fields, in the order of lists.
var probeOrders = [][]int{{0, 1, 2}, {0, 2, 1}, {1, 0, 2}, {1, 2, 0}, {2, 0, 1}, {2, 1, 0}}

// badOrders are lists that do not contain each field once.
func badOrders() [][]int {
	lists := [][]int{{0, 1, math.MaxInt}, {math.MinInt, 1, 2}, {0, 1, 1 << 32}, {0, 1, 2, 0, 1, 2}, {0, 1, 2, 3, 4}, make([]int, 99)}
	for _, l := range listsOf([]int{-1, 0, 1, 2, 3}, 4) {
		if !slices.ContainsFunc(probeOrders, func(order []int) bool { return slices.Equal(l, order) }) {
			lists = append(lists, l)
		}
	}
	return lists
}

// indexDump writes any index without the empty forms of a list being different.
func indexDump(x impl.Index) string {
	text := ""
	for _, q := range x.Queries {
		text += queryDump(q) + "; "
	}
	for field, spans := range x.Fields {
		text += fmt.Sprintf("field %d: %s; ", field, spansDump(spans))
	}
	return text
}

// smallBatch are queries that the row 3, 7, 0 matches, with conditions on two of the fields.
func smallBatch() []impl.Query {
	return []impl.Query{query(0, 0, cond(0, 2, 5)), query(1, 0, cond(1, 7, 7)), query(2, 0)}
}

// badIndexes are indexes that no function takes for valid, most of them for one reason alone.
func badIndexes() []impl.Index {
	l := []impl.Index{{}, {Fields: make([][]impl.Span, 3)}, {Queries: smallBatch()}, {Queries: smallBatch(), Fields: make([][]impl.Span, 3)}}
	for _, change := range []func(x *impl.Index){
		func(x *impl.Index) { x.Queries = nil },
		func(x *impl.Index) { x.Queries = x.Queries[:2] },
		func(x *impl.Index) { x.Queries = append(x.Queries, query(3, 0)) },
		func(x *impl.Index) { x.Queries[0].Conds = nil },
		func(x *impl.Index) { x.Queries[0].Conds[0].Low-- },
		func(x *impl.Index) { x.Queries[0].Conds[0].High++ },
		func(x *impl.Index) { x.Queries[0].Conds[0].Field = 2 },
		func(x *impl.Index) { x.Queries[2].Id = 3 },
		func(x *impl.Index) { x.Queries[2].Id = 1 },
		func(x *impl.Index) { x.Queries[2].Tenant = 4 },
		func(x *impl.Index) { x.Queries[2].Out = nil },
		func(x *impl.Index) { x.Queries[0], x.Queries[2] = x.Queries[2], x.Queries[0] },
		func(x *impl.Index) { x.Fields = nil },
		func(x *impl.Index) { x.Fields = x.Fields[:2] },
		func(x *impl.Index) { x.Fields = x.Fields[1:] },
		func(x *impl.Index) { x.Fields = append(x.Fields, x.Fields[2]) },
		func(x *impl.Index) { x.Fields = append(x.Fields, nil) },
		func(x *impl.Index) { x.Fields[0] = nil },
		func(x *impl.Index) { x.Fields[1] = nil },
		func(x *impl.Index) { x.Fields[2] = nil },
		func(x *impl.Index) { x.Fields[0], x.Fields[1] = x.Fields[1], x.Fields[0] },
		func(x *impl.Index) { x.Fields[0] = x.Fields[0][:2] },
		func(x *impl.Index) { x.Fields[0] = x.Fields[0][1:] },
		func(x *impl.Index) { x.Fields[0] = append(x.Fields[0], span(50, 60, 1, 2)) },
		func(x *impl.Index) { x.Fields[0][1].From-- },
		func(x *impl.Index) { x.Fields[0][1].To++ },
		func(x *impl.Index) { x.Fields[0][2].To = 100 },
		func(x *impl.Index) { x.Fields[0][1].Set = nil },
		func(x *impl.Index) { x.Fields[0][1].Set = []int{0, 1} },
		func(x *impl.Index) { x.Fields[0][1].Set = []int{0, 1, 2, 2} },
		func(x *impl.Index) { x.Fields[0][1].Set = []int{2, 1, 0} },
		func(x *impl.Index) { x.Fields[0][1].Set[2] = 3 },
		func(x *impl.Index) { x.Fields[0][0], x.Fields[0][1] = x.Fields[0][1], x.Fields[0][0] },
		// Spans that say the same, but are not the longest ones.
		func(x *impl.Index) { x.Fields[2] = []impl.Span{span(0, 49, 0, 1, 2), span(50, 99, 0, 1, 2)} },
	} {
		x := impl.BuildIndex(smallBatch())
		change(&x)
		l = append(l, x)
	}
	for _, bad := range badBatches() {
		l = append(l, impl.Index{Queries: bad}, impl.Index{Queries: bad, Fields: make([][]impl.Span, 3)}, impl.Index{Queries: bad, Fields: impl.BuildIndex(smallBatch()).Fields})
	}
	return l
}

// matchesOf is an independent statement of MatchSet for an index of valid queries.
func matchesOf(l []impl.Query, r impl.Row) []int {
	var set []int
	for _, q := range l {
		if impl.MatchesRow(q, r) {
			set = append(set, q.Id)
		}
	}
	return set
}

// probeWorkOf is an independent statement of the work of ProbeSet for valid arguments: it counts the queries that the conditions on the fields before and on this one admit.
func probeWorkOf(l []impl.Query, r impl.Row, order []int) int {
	work, rest := 0, slices.Clone(l)
	for _, field := range order {
		if len(rest) == 0 {
			return work
		}
		admits := func(q impl.Query) bool { return slices.Contains(stabSetOf(l, field, r.Values[field]), q.Id) }
		all := 0
		for _, q := range l {
			if admits(q) {
				all++
			}
		}
		work += 1 + min(all, len(rest))
		rest = slices.DeleteFunc(rest, func(q impl.Query) bool { return !admits(q) })
	}
	return work
}

// probedRows are valid rows with equal and with different values.
func probedRows() []impl.Row {
	rows := slices.Clone(goodRows()[:216:216])
	for v := 0; v < 100; v += 3 {
		rows = append(rows, row(v, v, 99-v, 37*v%100), row(v, v%10, v, v))
	}
	return rows
}

func TestBuildIndex(t *testing.T) {
	x := impl.BuildIndex(smallBatch())
	want := []string{"0..1 1-2; 2..5 0-2; 6..99 1-2", "0..6 0 2; 7..7 0-2; 8..99 0 2", "0..99 0-2"}
	if len(x.Fields) != 3 || len(x.Queries) != 3 {
		t.Fatalf("BuildIndex = %v", x)
	}
	for field, text := range want {
		if got := impl.FormatSpans(x.Fields[field]); got != text {
			t.Errorf("the spans of the field %d are %s, want %s", field, got, text)
		}
	}
	for i, q := range smallBatch() {
		if queryDump(x.Queries[i]) != queryDump(q) {
			t.Errorf("the query %d is %v, want %v", i, x.Queries[i], q)
		}
	}
}

// TestIndexWithoutQueries asks each function about a batch without queries, which is valid.
func TestIndexWithoutQueries(t *testing.T) {
	rows := []impl.Row{row(1, 0, 0, 0), row(2, 99, 50, 1), {}}
	for _, l := range [][]impl.Query{nil, {}} {
		x := impl.BuildIndex(l)
		if got, want := indexDump(x), "field 0: 0..99 []; field 1: 0..99 []; field 2: 0..99 []; "; got != want || !impl.IsIndex(x) {
			t.Errorf("BuildIndex = %s, want %s", got, want)
		}
		for _, r := range rows {
			if got := impl.MatchSet(x, r); len(got) != 0 {
				t.Errorf("MatchSet(%v) = %v", r, got)
			}
			for _, order := range probeOrders {
				if got, work := impl.ProbeSet(x, r, order); len(got) != 0 || work != 0 {
					t.Errorf("ProbeSet(%v, %v) = %v, %d", r, order, got, work)
				}
				if got := impl.WorkOf(x, rows, order); got != 0 {
					t.Errorf("WorkOf(%v) = %d", order, got)
				}
			}
		}
		for _, some := range [][]impl.Row{rows, nil} {
			if got := impl.BestOrder(x, some); !slices.Equal(got, []int{0, 1, 2}) {
				t.Errorf("BestOrder(%v) = %v", some, got)
			}
		}
	}
}

func TestBuildIndexOfBatches(t *testing.T) {
	for _, l := range stabBatches() {
		want := impl.Index{Queries: l}
		for field := range 3 {
			want.Fields = append(want.Fields, impl.StabIndex(l, field))
		}
		if got := impl.BuildIndex(l); indexDump(got) != indexDump(want) {
			t.Fatalf("BuildIndex(%v) = %s, want %s", l, indexDump(got), indexDump(want))
		}
	}
}

func TestBuildIndexRefuses(t *testing.T) {
	for _, bad := range badBatches() {
		if got := impl.BuildIndex(bad); len(got.Queries) != 0 || len(got.Fields) != 0 {
			t.Errorf("BuildIndex(%v) = %v for queries that are not valid", bad, got)
		}
	}
}

func TestIsIndex(t *testing.T) {
	for _, l := range stabBatches() {
		if x := impl.BuildIndex(l); !impl.IsIndex(x) {
			t.Fatalf("IsIndex(%s) = false", indexDump(x))
		}
	}
	for _, x := range []impl.Index{
		{Fields: [][]impl.Span{{span(0, 99)}, {span(0, 99)}, {span(0, 99)}}},
		{Queries: []impl.Query{}, Fields: [][]impl.Span{{{To: 99, Set: []int{}}}, {{To: 99}}, {{To: 99, Set: nil}}}},
		{Queries: []impl.Query{query(3, 1, cond(0, 5, 5))}, Fields: [][]impl.Span{{span(0, 4), span(5, 5, 3), span(6, 99)}, {span(0, 99, 3)}, {span(0, 99, 3)}}},
		{Queries: []impl.Query{query(3, 1, cond(2, 0, 99))}, Fields: [][]impl.Span{{span(0, 99, 3)}, {span(0, 99, 3)}, {span(0, 99, 3)}}},
	} {
		if !impl.IsIndex(x) {
			t.Errorf("IsIndex(%s) = false", indexDump(x))
		}
	}
}

func TestIsIndexRefuses(t *testing.T) {
	for _, x := range badIndexes() {
		if impl.IsIndex(x) {
			t.Errorf("IsIndex(%s) = true", indexDump(x))
		}
	}
}

// TestIsIndexOfOtherQueries holds the spans of each batch against the queries of the others.
func TestIsIndexOfOtherQueries(t *testing.T) {
	for i, a := range stabBatches() {
		for k, b := range stabBatches() {
			x := impl.Index{Queries: a, Fields: impl.BuildIndex(b).Fields}
			same := indexDump(x) == indexDump(impl.BuildIndex(a))
			if got := impl.IsIndex(x); got != same {
				t.Errorf("IsIndex with the queries %d and the spans of %d = %v", i, k, got)
			}
		}
	}
}

func TestMatchSet(t *testing.T) {
	x := impl.BuildIndex([]impl.Query{query(0, 0, cond(0, 2, 5)), query(5, 0, cond(1, 7, 7)), query(9, 0, cond(0, 5, 9), cond(1, 0, 7), cond(2, 0, 0)), query(23, 1)})
	for _, c := range []struct {
		why  string
		r    impl.Row
		want []int
	}{
		{"all queries", row(1, 5, 7, 0), []int{0, 5, 9, 23}},
		{"one condition of several fails", row(1, 5, 7, 1), []int{0, 5, 23}},
		{"another one fails", row(1, 5, 8, 0), []int{0, 23}},
		{"the first one fails", row(1, 4, 7, 0), []int{0, 5, 23}},
		{"no condition on the field", row(1, 9, 7, 99), []int{5, 23}},
		{"conditions on all fields", row(1, 9, 0, 0), []int{9, 23}},
		{"only the query without conditions", row(1, 99, 99, 99), []int{23}},
		{"the least values", row(0, 0, 0, 0), []int{23}},
		{"the number does not count", row(999, 2, 7, 0), []int{0, 5, 23}},
	} {
		if got := impl.MatchSet(x, c.r); !slices.Equal(got, c.want) {
			t.Errorf("%s: MatchSet(%v) = %v, want %v", c.why, c.r, got, c.want)
		}
	}
	one := impl.BuildIndex([]impl.Query{query(3, 1, cond(0, 5, 5))})
	for v := range 100 {
		got := impl.MatchSet(one, row(1, v, 5, 5))
		if v == 5 && !slices.Equal(got, []int{3}) || v != 5 && len(got) != 0 {
			t.Errorf("MatchSet with one query gives %v for %d", got, v)
		}
	}
}

func TestMatchSetRefuses(t *testing.T) {
	for _, x := range badIndexes() {
		for _, r := range []impl.Row{row(1, 3, 7, 0), row(1, 1, 1, 1)} {
			if got := impl.MatchSet(x, r); len(got) != 0 {
				t.Errorf("MatchSet(%s, %v) = %v for an index that is not valid", indexDump(x), r, got)
			}
		}
	}
	for _, x := range []impl.Index{impl.BuildIndex(smallBatch()), impl.BuildIndex(queriesFrom(0, 24))} {
		for _, r := range badRows {
			if got := impl.MatchSet(x, r); len(got) != 0 {
				t.Errorf("MatchSet(%v) = %v for a row that is not valid", r, got)
			}
		}
	}
}

// TestProbesGiveTheMatches is guarantee 3: in whatever order fields are probed, a row gets exactly the queries that it matches.
func TestProbesGiveTheMatches(t *testing.T) {
	rows := probedRows()
	for _, l := range stabBatches() {
		x := impl.BuildIndex(l)
		for _, r := range rows {
			want := matchesOf(l, r)
			if got := impl.MatchSet(x, r); !slices.Equal(got, want) {
				t.Fatalf("MatchSet(BuildIndex(%v), %v) = %v, want %v", l, r, got, want)
			}
			for _, order := range probeOrders {
				if got, _ := impl.ProbeSet(x, r, order); !slices.Equal(got, want) {
					t.Fatalf("ProbeSet(BuildIndex(%v), %v, %v) = %v, want %v", l, r, order, got, want)
				}
			}
		}
	}
}

func TestProbeSet(t *testing.T) {
	// With the values 10, 10, 10, the fields admit 0, then 1 and 2, and then all.
	l := []impl.Query{query(0, 0, cond(1, 0, 5)), query(1, 0, cond(0, 0, 5)), query(2, 0, cond(0, 0, 5)), query(3, 0, cond(0, 0, 5), cond(1, 0, 5))}
	none := []impl.Query{query(7, 0, cond(1, 0, 5)), query(8, 0, cond(1, 6, 9))}
	for _, c := range []struct {
		why   string
		l     []impl.Query
		r     impl.Row
		order []int
		want  []int
		work  int
	}{
		{"the set of the field is smaller, then the one before", smallBatch(), row(1, 9, 8, 0), []int{0, 1, 2}, []int{2}, 3 + 3 + 2},
		{"another order", smallBatch(), row(1, 9, 8, 0), []int{2, 0, 1}, []int{2}, 4 + 3 + 3},
		{"all queries match", smallBatch(), row(1, 3, 7, 0), []int{1, 2, 0}, []int{0, 1, 2}, 4 + 4 + 4},
		{"nothing is left before the last field", l, row(1, 10, 10, 10), []int{0, 1, 2}, nil, 2 + 2},
		{"nothing is left after the last field", l, row(1, 10, 10, 10), []int{0, 2, 1}, nil, 2 + 2 + 2},
		{"the larger set first", l, row(1, 10, 10, 10), []int{1, 0, 2}, nil, 3 + 2},
		{"the larger sets first", l, row(1, 10, 10, 10), []int{1, 2, 0}, nil, 3 + 3 + 2},
		{"the largest set first", l, row(1, 10, 10, 10), []int{2, 0, 1}, nil, 5 + 2 + 2},
		{"the smallest set last", l, row(1, 10, 10, 10), []int{2, 1, 0}, nil, 5 + 3 + 2},
		{"an empty set of the first field ends the probe", none, row(1, 10, 10, 10), []int{1, 0, 2}, nil, 1},
		{"an empty set of the second field", none, row(1, 10, 10, 10), []int{0, 1, 2}, nil, 3 + 1},
		{"an empty set of the last field", none, row(1, 10, 10, 10), []int{2, 0, 1}, nil, 3 + 3 + 1},
		{"one query that matches", none[:1], row(1, 10, 5, 10), []int{0, 1, 2}, []int{7}, 2 + 2 + 2},
		{"all numbers", queriesFrom(0, 24), row(999, 99, 99, 99), []int{2, 1, 0}, allMembers(), 25 + 25 + 25},
	} {
		if got, work := impl.ProbeSet(impl.BuildIndex(c.l), c.r, c.order); !slices.Equal(got, c.want) || work != c.work {
			t.Errorf("%s: ProbeSet(%v, %v) = %v, %d, want %v, %d", c.why, c.r, c.order, got, work, c.want, c.work)
		}
	}
}

func TestProbeSetOfBatches(t *testing.T) {
	rows := probedRows()
	for _, l := range stabBatches() {
		x := impl.BuildIndex(l)
		for i := 0; i < len(rows); i += 7 {
			for _, order := range probeOrders {
				if _, work := impl.ProbeSet(x, rows[i], order); work != probeWorkOf(l, rows[i], order) {
					t.Fatalf("ProbeSet(BuildIndex(%v), %v, %v) takes %d, want %d", l, rows[i], order, work, probeWorkOf(l, rows[i], order))
				}
			}
		}
	}
}

func TestProbeSetRefuses(t *testing.T) {
	check := func(why string, x impl.Index, r impl.Row, order []int) {
		if got, work := impl.ProbeSet(x, r, order); len(got) != 0 || work != 0 {
			t.Errorf("%s: ProbeSet(%s, %v, %v) = %v, %d", why, indexDump(x), r, order, got, work)
		}
	}
	good := impl.BuildIndex(smallBatch())
	for _, x := range badIndexes() {
		for _, order := range probeOrders {
			check("an index that is not valid", x, row(1, 3, 7, 0), order)
		}
	}
	for _, r := range badRows {
		for _, order := range probeOrders {
			check("a row that is not valid", good, r, order)
		}
	}
	for _, order := range badOrders() {
		check("an order that is not valid", good, row(1, 3, 7, 0), order)
		check("an order that is not valid, and a row that matches nothing", impl.BuildIndex(smallBatch()[:1]), row(1, 9, 7, 0), order)
	}
}

func TestWorkOf(t *testing.T) {
	one := impl.BuildIndex([]impl.Query{query(3, 0, cond(0, 2, 4))})
	l := []impl.Row{row(1, 1, 1, 0), row(3, 3, 1, 0), row(5, 5, 1, 0)}
	for _, c := range []struct {
		why   string
		rows  []impl.Row
		order []int
		want  int
	}{
		{"no rows", nil, []int{0, 1, 2}, 0},
		{"a row that does not match", l[:1], []int{0, 1, 2}, 1},
		{"a row that matches", l[1:2], []int{0, 1, 2}, 6},
		{"all rows", l, []int{0, 1, 2}, 1 + 6 + 1},
		{"all rows, in another order", l, []int{1, 0, 2}, 3 + 6 + 3},
		{"all rows, the condition last", l, []int{2, 1, 0}, 5 + 6 + 5},
		{"one row twice", []impl.Row{l[1], l[0], l[1]}, []int{0, 1, 2}, 6 + 1 + 6},
		{"equal values with different numbers", []impl.Row{row(1, 3, 1, 0), row(2, 3, 1, 0), row(3, 3, 1, 0)}, []int{0, 1, 2}, 18},
		{"different values in the same spans", []impl.Row{row(1, 2, 1, 0), row(1, 3, 50, 60), row(1, 4, 99, 99)}, []int{1, 2, 0}, 18},
		{"rows that are not valid", append(slices.Clone(badRows), badRows...), []int{0, 1, 2}, 0},
		{"one valid row of many", append(append(slices.Clone(badRows), l[1]), badRows...), []int{0, 1, 2}, 6},
		{"descending numbers", []impl.Row{l[2], l[1], l[0]}, []int{0, 1, 2}, 8},
	} {
		if got := impl.WorkOf(one, c.rows, c.order); got != c.want {
			t.Errorf("%s: WorkOf(%v, %v) = %d, want %d", c.why, c.rows, c.order, got, c.want)
		}
	}
}

// TestWorkOfIsASum holds WorkOf against the work of ProbeSet, for more rows than a table has.
func TestWorkOfIsASum(t *testing.T) {
	rows := append(append(probedRows(), badRows...), probedRows()[50:90]...)
	for _, l := range stabBatches() {
		x := impl.BuildIndex(l)
		for _, order := range probeOrders {
			want := 0
			for _, r := range rows {
				_, work := impl.ProbeSet(x, r, order)
				want += work
			}
			if got := impl.WorkOf(x, rows, order); got != want {
				t.Fatalf("WorkOf(BuildIndex(%v), %v) = %d, want %d", l, order, got, want)
			}
		}
	}
}

func TestWorkOfRefuses(t *testing.T) {
	rows := []impl.Row{row(1, 3, 7, 0), row(2, 9, 9, 9)}
	for _, x := range badIndexes() {
		for _, order := range probeOrders {
			if got := impl.WorkOf(x, rows, order); got != 0 {
				t.Errorf("WorkOf(%s, %v) = %d for an index that is not valid", indexDump(x), order, got)
			}
		}
	}
	for _, order := range badOrders() {
		if got := impl.WorkOf(impl.BuildIndex(smallBatch()), rows, order); got != 0 {
			t.Errorf("WorkOf(%v) = %d for an order that is not valid", order, got)
		}
	}
}

// selectiveBatch returns queries of which the row 10, 10, 10 leaves one in the first field of an order, two others in the second, and all in the last: each other order takes more work.
func selectiveBatch(order []int) []impl.Query {
	first, second := cond(order[0], 0, 5), cond(order[1], 0, 5)
	both := []impl.Cond{first, second}
	slices.SortFunc(both, func(a, b impl.Cond) int { return a.Field - b.Field })
	return []impl.Query{query(0, 0, second), query(1, 0, first), query(2, 0, first), query(3, 0, both...)}
}

func TestBestOrder(t *testing.T) {
	tens := []impl.Row{row(1, 10, 10, 10)}
	for _, order := range probeOrders {
		if got := impl.BestOrder(impl.BuildIndex(selectiveBatch(order)), tens); !slices.Equal(got, order) {
			t.Errorf("BestOrder = %v, want %v", got, order)
		}
	}
	last := impl.BuildIndex([]impl.Query{query(0, 0, cond(2, 0, 5)), query(1, 0, cond(2, 0, 5))})
	middle := impl.BuildIndex([]impl.Query{query(0, 0, cond(1, 0, 5)), query(1, 0, cond(1, 0, 5))})
	ends := impl.BuildIndex([]impl.Query{query(0, 0, cond(0, 0, 5), cond(2, 0, 5))})
	all := impl.BuildIndex([]impl.Query{query(0, 0, cond(0, 0, 5), cond(1, 0, 5), cond(2, 0, 5))})
	mixed := impl.BuildIndex([]impl.Query{query(0, 0, cond(2, 0, 5)), query(1, 0, cond(0, 0, 5), cond(1, 0, 5)), query(2, 0, cond(0, 0, 5)), query(3, 0, cond(0, 0, 5), cond(1, 0, 5))})
	for _, c := range []struct {
		why  string
		x    impl.Index
		rows []impl.Row
		want []int
	}{
		{"no rows", last, nil, []int{0, 1, 2}},
		{"no valid rows", last, badRows, []int{0, 1, 2}},
		{"all orders take the same work", last, []impl.Row{row(1, 0, 0, 0)}, []int{0, 1, 2}},
		{"the first one of two", last, tens, []int{2, 0, 1}},
		{"the first one of two", middle, tens, []int{1, 0, 2}},
		{"the first one of four", ends, tens, []int{0, 1, 2}},
		{"the first and the last order take the same work", all, []impl.Row{row(1, 9, 0, 9), row(2, 0, 9, 0), row(3, 9, 0, 9)}, []int{0, 1, 2}},
		{"the second and the third one", mixed, []impl.Row{row(1, 9, 9, 9), row(2, 0, 9, 9)}, []int{0, 2, 1}},
		{"the second and the fourth one", all, []impl.Row{row(1, 9, 9, 0), row(2, 0, 0, 9), row(3, 9, 9, 0)}, []int{0, 2, 1}},
		{"the third and the fifth one", all, []impl.Row{row(1, 0, 9, 9), row(2, 9, 0, 0), row(3, 0, 9, 9)}, []int{1, 0, 2}},
		{"the last three", all, []impl.Row{row(1, 9, 9, 0), row(2, 0, 0, 9), row(3, 0, 9, 9)}, []int{1, 2, 0}},
		{"rows that match do not count", last, []impl.Row{row(1, 0, 0, 0), row(2, 0, 0, 9), row(3, 1, 1, 1)}, []int{2, 0, 1}},
		{"the field that leaves out more rows", ends, []impl.Row{row(1, 9, 9, 0), row(2, 0, 9, 9), row(3, 0, 0, 9)}, []int{2, 0, 1}},
		{"equal rows count each time", ends, []impl.Row{row(1, 0, 9, 9), row(2, 9, 9, 0), row(2, 9, 9, 0)}, []int{0, 2, 1}},
		{"rows that are not valid do not count", ends, append([]impl.Row{row(1, 0, 9, 9), {Id: 1000, Values: []int{9, 9, 0}}, {Id: 1000, Values: []int{9, 9, 0}}}, badRows...), []int{2, 0, 1}},
	} {
		if got := impl.BestOrder(c.x, c.rows); !slices.Equal(got, c.want) {
			t.Errorf("%s: BestOrder = %v, want %v", c.why, got, c.want)
		}
	}
}

// TestBestOrderTakesLeastWork holds BestOrder against WorkOf, again and again.
func TestBestOrderTakesLeastWork(t *testing.T) {
	rows := probedRows()
	for _, l := range stabBatches() {
		x := impl.BuildIndex(l)
		for first := 0; first < len(rows); first += 20 {
			some := rows[first:min(first+25, len(rows))]
			best := probeOrders[0]
			for _, order := range probeOrders {
				if impl.WorkOf(x, some, order) < impl.WorkOf(x, some, best) {
					best = order
				}
			}
			for range 3 {
				if got := impl.BestOrder(x, some); !slices.Equal(got, best) {
					t.Fatalf("BestOrder(BuildIndex(%v), %v) = %v, want %v", l, some, got, best)
				}
			}
		}
	}
}

func TestBestOrderRefuses(t *testing.T) {
	for _, x := range badIndexes() {
		for _, rows := range [][]impl.Row{nil, {row(1, 3, 7, 0)}} {
			if got := impl.BestOrder(x, rows); len(got) != 0 {
				t.Errorf("BestOrder(%s) = %v for an index that is not valid", indexDump(x), got)
			}
		}
	}
}

// TestIndexesAreLeftAlone watches the arguments, their unused capacity included, while a result is written to.
func TestIndexesAreLeftAlone(t *testing.T) {
	conds := []impl.Cond{cond(0, 2, 5), cond(2, 0, 9), cond(7, 7, 7)}
	out := []int{1, 0, 9}
	queries := []impl.Query{{Id: 3, Conds: conds[:2], Out: out[:2]}, {Id: 4, Conds: conds[:0], Out: out[:1]}, {Id: 77}}
	rows := []impl.Row{row(1, 3, 0, 0), row(2, 9, 9, 9), row(7, 7)}
	order := []int{1, 0, 2, 9}
	x := impl.BuildIndex(queries[:2])
	x.Fields = append(x.Fields, nil)[:3]
	state := func() string { return fmt.Sprint(conds, out, queries, rows, order, indexDump(x), x.Fields[:4]) }
	before := state()
	for range 2 {
		built := impl.BuildIndex(queries[:2])
		for i := range built.Queries {
			built.Queries[i].Out[0] = -1
			built.Queries[i].Out = append(built.Queries[i].Out, -2)
			built.Queries[i].Conds = append(built.Queries[i].Conds, cond(-3, -3, -3))
			built.Queries[i].Conds[0].Low = -4
		}
		_ = append(built.Queries, query(-5, -5))
		impl.IsIndex(x)
		impl.WorkOf(x, rows[:2], order[:3])
		matched := impl.MatchSet(x, rows[0])
		probed, _ := impl.ProbeSet(x, rows[0], order[:3])
		for _, l := range [][]int{matched, probed, impl.BestOrder(x, rows[:2])} {
			l[0] = -6
			_ = append(l, -7)
		}
		if state() != before {
			t.Fatalf("an argument changed: %s, was %s", state(), before)
		}
	}
}

// TestIndexesShareNothing builds an index of queries with one memory, writes to each of its lists and looks at the others.
func TestIndexesShareNothing(t *testing.T) {
	conds, out := []impl.Cond{cond(0, 2, 5)}, []int{1}
	x := impl.BuildIndex([]impl.Query{{Id: 3, Conds: conds, Out: out}, {Id: 4, Conds: conds, Out: out}})
	want := indexDump(x)
	for _, q := range x.Queries {
		_, _ = append(q.Conds, cond(-1, -1, -1)), append(q.Out, -1)
	}
	for _, spans := range x.Fields {
		_ = append(spans, span(-1, -1))
	}
	if indexDump(x) != want {
		t.Errorf("lists share unused memory: %s, was %s", indexDump(x), want)
	}
	x.Queries[0].Conds[0].Low, x.Queries[0].Out[0] = -1, -2
	x.Fields[1][0].From, x.Fields[1][0].Set[0] = -3, -4
	if got := queryDump(x.Queries[1]); got != "4 0 [{0 2 5}] [1]" {
		t.Errorf("the queries share memory: %s", got)
	}
	if got := spansDump(x.Fields[2]); got != "0..99 [3 4]" {
		t.Errorf("the fields share memory: %s", got)
	}
}

// TestBestOrdersShareNothing writes to one result and asks again.
func TestBestOrdersShareNothing(t *testing.T) {
	for _, order := range probeOrders {
		x := impl.BuildIndex(selectiveBatch(order))
		best := impl.BestOrder(x, []impl.Row{row(1, 10, 10, 10)})
		best[0], best[1], best[2] = 7, 7, 7
		if got := impl.BestOrder(x, []impl.Row{row(1, 10, 10, 10)}); !slices.Equal(got, order) {
			t.Errorf("BestOrder = %v after a write to its result, want %v", got, order)
		}
		if set, work := impl.ProbeSet(x, row(1, 10, 10, 10), order); len(set) != 0 || work != 4 {
			t.Errorf("ProbeSet = %v, %d after a write to a best order", set, work)
		}
	}
}
