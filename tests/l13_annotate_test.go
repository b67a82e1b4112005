package tests

import (
	"fmt"
	"math"
	"slices"
	"strings"
	"testing"

	"loop.example/g01986/impl"
)

func annotated(r impl.Row, set ...int) impl.Annotated { return impl.Annotated{Row: r, Set: set} }

// annotatedText writes any list without the empty forms of a list being different.
func annotatedText(l []impl.Annotated) string {
	texts := make([]string, len(l))
	for i, a := range l {
		texts[i] = fmt.Sprintf("%s %v", rowText(a.Row), a.Set)
	}
	return strings.Join(texts, "; ")
}

// annotatedOf is an independent statement of AnnotateRows for an index of valid queries.
func annotatedOf(l []impl.Query, rows []impl.Row) []impl.Annotated {
	var list []impl.Annotated
	for _, r := range rows {
		if set := matchesOf(l, r); len(set) > 0 {
			list = append(list, impl.Annotated{Row: r, Set: set})
		}
	}
	return list
}

// routedTo is an independent statement of RouteRows: it counts in each set how often the number is there.
func routedTo(l []impl.Annotated, id int) []impl.Row {
	var rows []impl.Row
	for _, a := range l {
		counts := map[int]int{}
		for _, x := range a.Set {
			counts[x]++
		}
		if counts[id] > 0 {
			rows = append(rows, a.Row)
		}
	}
	return rows
}

// keptOf is an independent statement of KeepSet.
func keptOf(l []impl.Annotated, set []int) []impl.Annotated {
	var list []impl.Annotated
	for _, a := range l {
		if !isSetOf(a.Set) || !isSetOf(set) {
			continue
		}
		rest := pick(a.Set, set, func(inA, inB bool) bool { return inA && inB })
		if len(rest) > 0 {
			list = append(list, impl.Annotated{Row: a.Row, Set: rest})
		}
	}
	return list
}

// oddAnnotated are rows of all kinds with sets of all kinds, most of them neither valid.
func oddAnnotated() []impl.Annotated {
	lists := slices.Concat(nonSets, [][]int{nil, {}, {0}, {5}, {23}, {0, 1, 2}, {5, 6, 23}, allMembers()})
	rows := slices.Concat(badRows, []impl.Row{row(0, 0, 0, 0), row(999, 99, 99, 99), row(5, 1, 2, 3)})
	var l []impl.Annotated
	for i, set := range lists {
		l = append(l, impl.Annotated{Row: rows[i%len(rows)], Set: set})
	}
	for i, r := range rows {
		l = append(l, impl.Annotated{Row: r, Set: lists[7*i%len(lists)]}, annotated(r, 0, 5, 23))
	}
	return l
}

func TestAnnotateRows(t *testing.T) {
	x := impl.BuildIndex([]impl.Query{query(2, 0, cond(0, 2, 5)), query(7, 1, cond(0, 5, 9), cond(1, 7, 7)), query(20, 3, cond(2, 1, 99))})
	for _, c := range []struct {
		why  string
		rows []impl.Row
		want string
	}{
		{"no rows", nil, ""},
		{"a row that no query matches", []impl.Row{row(1, 1, 7, 0)}, ""},
		{"only rows that no query matches", []impl.Row{row(1, 1, 7, 0), row(2, 6, 6, 0), row(3, 99, 99, 0)}, ""},
		{"a row that one query matches", []impl.Row{row(1, 2, 0, 0)}, "1:[2 0 0] [2]"},
		{"a row that all queries match", []impl.Row{row(1, 5, 7, 1)}, "1:[5 7 1] [2 7 20]"},
		{"a row that no query matches between others", []impl.Row{row(1, 9, 7, 0), row(2, 9, 8, 0), row(3, 9, 8, 1)}, "1:[9 7 0] [7]; 3:[9 8 1] [20]"},
		{"rows that no query matches around another", []impl.Row{row(1, 0, 0, 0), row(2, 3, 7, 9), row(3, 0, 0, 0)}, "2:[3 7 9] [2 20]"},
		{"rows that do not ascend", []impl.Row{row(9, 3, 0, 0), row(4, 0, 0, 5), row(6, 9, 7, 0)}, "9:[3 0 0] [2]; 4:[0 0 5] [20]; 6:[9 7 0] [7]"},
		{"a row that is there twice", []impl.Row{row(4, 3, 0, 0), row(4, 3, 0, 0)}, "4:[3 0 0] [2]; 4:[3 0 0] [2]"},
		{"rows with one Id", []impl.Row{row(4, 3, 0, 0), row(4, 6, 0, 0), row(4, 6, 7, 0)}, "4:[3 0 0] [2]; 4:[6 7 0] [7]"},
		{"rows that are not valid", []impl.Row{{}, row(1000, 3, 0, 0), row(-1, 3, 0, 0), row(1, 3, 0), row(2, 3, 0, 100), row(3, 3, 0, 99), row(4, 3, 0, 0, 0)}, "3:[3 0 99] [2 20]"},
		{"the limits of a row", []impl.Row{row(0, 2, 0, 0), row(999, 99, 99, 99)}, "0:[2 0 0] [2]; 999:[99 99 99] [20]"},
	} {
		if got := annotatedText(impl.AnnotateRows(x, c.rows)); got != c.want {
			t.Errorf("%s: AnnotateRows = %s, want %s", c.why, got, c.want)
		}
	}
}

// TestAnnotateRowsAsMatchSet compares with the queries that match each row, for many rows at once.
func TestAnnotateRowsAsMatchSet(t *testing.T) {
	rows := slices.Concat(probedRows(), badRows, smallRows())
	for _, l := range stabBatches() {
		x := impl.BuildIndex(l)
		got := impl.AnnotateRows(x, rows)
		if want := annotatedOf(l, rows); annotatedText(got) != annotatedText(want) {
			t.Fatalf("AnnotateRows(BuildIndex(%v)) = %s, want %s", l, annotatedText(got), annotatedText(want))
		}
		next := 0
		for _, r := range rows {
			set := impl.MatchSet(x, r)
			if len(set) == 0 {
				continue
			}
			if !slices.Equal(got[next].Set, set) {
				t.Fatalf("the row %s has the set %v, MatchSet says %v", rowText(r), got[next].Set, set)
			}
			next++
		}
	}
}

func TestAnnotateRowsRefuses(t *testing.T) {
	for _, x := range badIndexes() {
		if got := impl.AnnotateRows(x, []impl.Row{row(1, 3, 7, 0), row(2, 0, 0, 0)}); len(got) != 0 {
			t.Errorf("AnnotateRows(%s) = %s for an index that is not valid", indexDump(x), annotatedText(got))
		}
	}
	for _, l := range [][]impl.Query{nil, {}} {
		if got := impl.AnnotateRows(impl.BuildIndex(l), []impl.Row{row(1, 3, 7, 0)}); len(got) != 0 {
			t.Errorf("AnnotateRows without queries = %s", annotatedText(got))
		}
	}
}

func TestRouteRows(t *testing.T) {
	l := []impl.Annotated{annotated(row(9, 1, 2, 3), 0, 3), annotated(row(4, 5, 6, 7), 3), annotated(row(4, 5, 6, 7), 0, 3, 23), annotated(row(1, 1, 1, 1), 23)}
	for id, want := range map[int]string{
		0:    "9:[1 2 3] 4:[5 6 7]",
		3:    "9:[1 2 3] 4:[5 6 7] 4:[5 6 7]",
		23:   "4:[5 6 7] 1:[1 1 1]",
		1:    "",
		2:    "",
		24:   "",
		-1:   "",
		1000: "",
	} {
		if got := rowsText(impl.RouteRows(l, id)); got != want {
			t.Errorf("RouteRows for %d = %s, want %s", id, got, want)
		}
	}
	if got := impl.RouteRows(nil, 0); len(got) != 0 {
		t.Errorf("RouteRows of nothing = %s", rowsText(got))
	}
}

// TestRouteRowsOfAnyLists is about lists that are no sets, numbers that no query has, and rows that are not valid: as HasMember, it accepts all of them.
func TestRouteRowsOfAnyLists(t *testing.T) {
	l := append(oddAnnotated(), annotated(row(7), 5, 5), annotated(impl.Row{}, 24), annotated(row(-1, 100), math.MinInt, math.MaxInt, -1))
	ids := slices.Concat(allMembers(), numbersAround(23), []int{31, 32, 63, 64, 128})
	for _, id := range ids {
		if got, want := rowsText(impl.RouteRows(l, id)), rowsText(routedTo(l, id)); got != want {
			t.Errorf("RouteRows for %d = %s, want %s", id, got, want)
		}
	}
	if got := rowsText(impl.RouteRows([]impl.Annotated{annotated(row(7), 5, 5), annotated(impl.Row{}, 2, 5)}, 5)); got != "7:[] 0:[]" {
		t.Errorf("RouteRows = %s: a row that is named twice counts once", got)
	}
}

func TestKeepSet(t *testing.T) {
	l := []impl.Annotated{annotated(row(9, 1, 2, 3), 0, 3), annotated(row(4, 5, 6, 7), 3), annotated(row(4, 5, 6, 7), 0, 3, 23), annotated(row(1, 1, 1, 1), 23)}
	for _, c := range []struct {
		why  string
		set  []int
		want string
	}{
		{"a member of some sets", []int{0}, "9:[1 2 3] [0]; 4:[5 6 7] [0]"},
		{"several members", []int{0, 23}, "9:[1 2 3] [0]; 4:[5 6 7] [0 23]; 1:[1 1 1] [23]"},
		{"members beside others", []int{2, 3, 4, 22}, "9:[1 2 3] [3]; 4:[5 6 7] [3]; 4:[5 6 7] [3]"},
		{"all numbers", allMembers(), annotatedText(l)},
		{"a number that no set has", []int{5}, ""},
		{"no number", nil, ""},
		{"no set: not ascending", []int{3, 0}, ""},
		{"no set: a number twice", []int{3, 3}, ""},
		{"no set: a number beyond the limit", []int{3, 24}, ""},
		{"no set: a negative number", []int{-1, 3}, ""},
	} {
		if got := annotatedText(impl.KeepSet(l, c.set)); got != c.want {
			t.Errorf("%s: KeepSet = %s, want %s", c.why, got, c.want)
		}
	}
	if got := impl.KeepSet(nil, []int{0}); len(got) != 0 {
		t.Errorf("KeepSet of nothing = %s", annotatedText(got))
	}
	// Only what the rows have is met: what the list beside it holds does not matter.
	mixed := []impl.Annotated{annotated(row(7), 5, 2), annotated(row(8), 2, 5), annotated(row(9), 2, 24), annotated(row(9), 5)}
	if got := annotatedText(impl.KeepSet(mixed, []int{2, 3})); got != "8:[] [2]" {
		t.Errorf("KeepSet = %s: lists that are no sets have nothing to keep, rows need not be valid", got)
	}
}

func TestKeepSetAsMeetSets(t *testing.T) {
	var l []impl.Annotated
	for i, set := range manySets() {
		if i%17 == 0 {
			l = append(l, annotated(row(i%1000, i%100, 0, 1), set...))
		}
	}
	l = append(l, oddAnnotated()...)
	sets := slices.Concat(nonSets, [][]int{nil, {}, {0}, {23}, {5, 6, 7, 21}, allMembers()[:12], allMembers()[12:], allMembers()})
	for _, set := range sets {
		got := impl.KeepSet(l, set)
		if want := keptOf(l, set); annotatedText(got) != annotatedText(want) {
			t.Errorf("KeepSet for %v = %s, want %s", set, annotatedText(got), annotatedText(want))
		}
		next := 0
		for _, a := range l {
			if rest := impl.MeetSets(a.Set, set); len(rest) > 0 {
				if !slices.Equal(got[next].Set, rest) {
					t.Errorf("KeepSet for %v leaves %v of %v, MeetSets %v", set, got[next].Set, a.Set, rest)
				}
				next++
			}
		}
	}
}

func TestCountRouted(t *testing.T) {
	for _, c := range []struct {
		why  string
		l    []impl.Annotated
		want int
	}{
		{"no rows", nil, 0},
		{"one member", []impl.Annotated{annotated(row(1, 1, 2, 3), 7)}, 1},
		{"several members", []impl.Annotated{annotated(row(1, 1, 2, 3), 0, 3), annotated(row(2, 1, 2, 3), 3), annotated(row(4, 1, 2, 3), 0, 3, 23)}, 6},
		{"one row twice", []impl.Annotated{annotated(row(1, 1, 2, 3), 0, 3), annotated(row(1, 1, 2, 3), 0, 3)}, 4},
		{"rows without members", []impl.Annotated{annotated(row(1, 1, 2, 3)), annotated(row(2, 1, 2, 3), 5), annotated(row(3, 1, 2, 3))}, 1},
		{"all numbers", []impl.Annotated{annotated(row(1, 1, 2, 3), allMembers()...)}, 24},
		{"lists that are no sets", []impl.Annotated{annotated(row(1, 1, 2, 3), 5, 5, 5), annotated(row(2, 1, 2, 3), 24, -1), annotated(row(3, 1, 2, 3), math.MaxInt)}, 6},
		{"rows that are not valid", []impl.Annotated{annotated(impl.Row{}, 5, 6), annotated(row(-1, 100), 7)}, 3},
		{"many rows", slices.Repeat([]impl.Annotated{annotated(row(1, 1, 2, 3), 1, 2, 3)}, 1000), 3000},
	} {
		if got := impl.CountRouted(c.l); got != c.want {
			t.Errorf("%s: CountRouted = %d, want %d", c.why, got, c.want)
		}
	}
}

func TestEqualAnnotated(t *testing.T) {
	lists := [][]impl.Annotated{
		nil,
		{{}},
		{{}, {}},
		{annotated(row(1, 1, 2, 3), 4, 5)},
		{annotated(row(2, 1, 2, 3), 4, 5)},
		{annotated(row(1, 0, 2, 3), 4, 5)},
		{annotated(row(1, 1, 0, 3), 4, 5)},
		{annotated(row(1, 1, 2, 0), 4, 5)},
		{annotated(row(1, 1, 2), 4, 5)},
		{annotated(row(1, 1, 2, 3, 4), 5)},
		{annotated(row(1, 1, 2, 3, 4), 4, 5)},
		{annotated(row(1, 1, 2, 3, 5), 4, 5)},
		{annotated(row(1), 4, 5)},
		{annotated(row(1, 1, 2, 3), 4)},
		{annotated(row(1, 1, 2, 3), 5)},
		{annotated(row(1, 1, 2, 3), 5, 4)},
		{annotated(row(1, 1, 2, 3), 4, 6)},
		{annotated(row(1, 1, 2, 3), 4, 5, 6)},
		{annotated(row(1, 1, 2, 3), 4, 5, 5)},
		{annotated(row(1, 1, 2, 3))},
		{annotated(row(1, 1, 2, 3), -1, 99)},
		{annotated(row(1, 1, 2, 3), 4, 5), annotated(row(1, 1, 2, 3), 4, 5)},
		{annotated(row(1, 1, 2, 3), 4, 5), annotated(row(2, 1, 2, 3), 4)},
		{annotated(row(2, 1, 2, 3), 4), annotated(row(1, 1, 2, 3), 4, 5)},
		{annotated(row(1, 1, 2, 3), 4), annotated(row(2, 1, 2, 3), 4, 5)},
		{annotated(row(math.MinInt, math.MaxInt), math.MaxInt)},
	}
	for i, a := range lists {
		for j, b := range lists {
			if got := impl.EqualAnnotated(roomy(a), roomy(b)); got != (i == j) {
				t.Errorf("EqualAnnotated(%s, %s) = %v", annotatedText(a), annotatedText(b), got)
			}
		}
	}
	empty := []impl.Annotated{{Row: impl.Row{Values: []int{}}, Set: []int{}}}
	if !impl.EqualAnnotated(empty, []impl.Annotated{{}}) || !impl.EqualAnnotated(nil, []impl.Annotated{}) || !impl.EqualAnnotated(oddAnnotated(), oddAnnotated()) {
		t.Error("EqualAnnotated tells nil from an empty list, or equal lists from each other")
	}
}

// TestSharedRowsAreThoseAlone is what guarantee 8 rests on: the rows that are annotated for all queries at once give each of them those that it matches alone, and no others.
func TestSharedRowsAreThoseAlone(t *testing.T) {
	rows := slices.Concat(probedRows(), badRows)
	for _, l := range stabBatches() {
		list := impl.AnnotateRows(impl.BuildIndex(l), rows)
		sum := 0
		for id := -1; id <= 24; id++ {
			var alone []impl.Row
			if i := slices.IndexFunc(l, func(q impl.Query) bool { return q.Id == id }); i >= 0 {
				alone = slices.DeleteFunc(slices.Clone(rows), func(r impl.Row) bool { return !impl.MatchesRow(l[i], r) })
				if got := impl.SortRows(impl.RouteRows(list, id)); !impl.EqualRows(got, impl.AnswerAlone(l[i], rows)) {
					t.Fatalf("the query %s gets %s, alone %s", queryDump(l[i]), rowsText(got), rowsText(impl.AnswerAlone(l[i], rows)))
				}
			}
			shared := impl.RouteRows(list, id)
			if !impl.EqualRows(shared, alone) || !impl.EqualRows(shared, impl.RouteRows(impl.KeepSet(list, []int{id}), id)) {
				t.Fatalf("the query %d gets %s, alone %s", id, rowsText(shared), rowsText(alone))
			}
			sum += len(shared)
		}
		if got := impl.CountRouted(list); got != sum {
			t.Errorf("CountRouted = %d, but the queries get %d rows", got, sum)
		}
	}
}

// TestAnnotationsLeaveArgumentsAlone looks at the arguments, their unused capacity included, and at what the results share.
func TestAnnotationsLeaveArgumentsAlone(t *testing.T) {
	plain := []impl.Annotated{annotated(row(9, 1, 2, 3), 0, 3), annotated(row(4), 3), annotated(row(4, 5, 6, 7), 3, 0), annotated(row(1, 1, 1, 1)), annotated(row(3, 4, 4, 4), 3)}
	for _, index := range []impl.Index{impl.BuildIndex(smallBatch()), {Queries: smallBatch()}, {}} {
		x, l, set := roomy(index), roomy(plain), roomy([]int{0, 3})
		rows := roomy([]impl.Row{row(9, 3, 7, 0), row(2, 3, 7, 0), row(1), row(4, 0, 0, 0)})
		state := func() string { return wholeText(x) + wholeText(l) + wholeText(set) + wholeText(rows) }
		before := state()
		first := []any{impl.AnnotateRows(x, rows), impl.RouteRows(l, 3), impl.KeepSet(l, set), impl.CountRouted(l), impl.EqualAnnotated(l, plain)}
		second := []any{impl.AnnotateRows(x, rows), impl.RouteRows(l, 3), impl.KeepSet(l, set), impl.CountRouted(l), impl.EqualAnnotated(l, plain)}
		if state() != before {
			t.Fatalf("an argument changed: %s, was %s", state(), before)
		}
		if fmt.Sprint(first...) != fmt.Sprint(second...) {
			t.Errorf("the results %v and %v differ", first, second)
		}
		if sharesMemory(slices.Concat([]any{x, l, set, rows}, first, second)...) {
			t.Errorf("results share memory with arguments or with each other")
		}
	}
}

// TestAnnotationsShareNothing gives the functions arguments whose parts have one memory.
func TestAnnotationsShareNothing(t *testing.T) {
	values, set := []int{3, 7, 0}, []int{0, 2}
	rows := []impl.Row{{Id: 1, Values: values}, {Id: 2, Values: values}}
	l := []impl.Annotated{{Row: rows[0], Set: set}, {Row: rows[1], Set: set}}
	for name, result := range map[string]any{
		"AnnotateRows": impl.AnnotateRows(impl.BuildIndex(smallBatch()), rows),
		"RouteRows":    impl.RouteRows(l, 2),
		"KeepSet":      impl.KeepSet(l, set),
	} {
		if sharesMemory(result) {
			t.Errorf("the parts of the result of %s share memory", name)
		}
	}
}
