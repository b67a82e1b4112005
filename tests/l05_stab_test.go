package tests

import (
	"fmt"
	"math"
	"slices"
	"strings"
	"testing"

	"loop.example/g01986/impl"
)

func span(from, to int, set ...int) impl.Span {
	return impl.Span{From: from, To: to, Set: set}
}

// spansDump writes any spans without the empty forms of a list being different.
func spansDump(l []impl.Span) string {
	texts := make([]string, len(l))
	for i, s := range l {
		texts[i] = fmt.Sprintf("%d..%d %v", s.From, s.To, s.Set)
	}
	return strings.Join(texts, "; ")
}

// numbersAround are those that are next to a range from 0 to a limit, and far from it.
func numbersAround(limit int) []int {
	return []int{-1, -2, -limit, limit + 1, limit + 2, 2 * limit, 1 << 32, math.MinInt, math.MaxInt}
}

// stabBatches are lists of queries that are valid, with conditions on one value, on all values and on none among them.
func stabBatches() [][]impl.Query {
	batches := [][]impl.Query{
		nil,
		{},
		{query(0, 0)},
		{query(23, 3)},
		{query(0, 0, cond(0, 2, 5)), query(1, 0, cond(1, 7, 7))},
		{query(3, 1, cond(0, 5, 5))},
		{query(3, 1, cond(2, 0, 0)), query(7, 0, cond(2, 99, 99)), query(8, 0, cond(2, 50, 50))},
		{query(1, 0, cond(0, 7, 7)), query(2, 0, cond(0, 7, 7)), query(9, 0, cond(0, 8, 8))},
		{query(1, 0, cond(1, 0, 99)), query(2, 0)},
		{query(4, 0, cond(0, 0, 49)), query(5, 1, cond(0, 50, 99))},
		{query(4, 0, cond(0, 0, 50)), query(5, 1, cond(0, 50, 99))},
		{query(4, 0, cond(0, 0, 48)), query(5, 1, cond(0, 50, 99))},
		{query(0, 0, cond(0, 10, 20), cond(1, 30, 40), cond(2, 50, 60)), query(22, 3, cond(0, 15, 35), cond(2, 55, 55))},
		queriesFrom(0, 24),
	}
	var points, nested, others []impl.Query
	for id := range 24 {
		points = append(points, query(id, id%4, cond(id%3, 4*id, 4*id)))
		nested = append(nested, query(id, id%4, cond(0, id, 99-id), cond(1, 2*id, 98), cond(2, 50-2*id, 50+2*id)))
		others = append(others, queryWithId(id, goodQueries()[17*id]))
	}
	return append(batches, points, nested, others, nested[5:9], points[20:])
}

// badBatches are lists of queries that no function takes for valid.
func badBatches() [][]impl.Query {
	batches := [][]impl.Query{
		queriesFrom(0, 25),
		queriesFrom(-1, 3),
		queriesFrom(22, 3),
		{query(1, 0), query(1, 0)},
		{query(1, 0, cond(0, 1, 1)), query(1, 0, cond(0, 2, 2))},
		{query(2, 0), query(1, 0)},
		{query(1, 0), query(3, 0), query(2, 0)},
	}
	for _, bad := range badQueries() {
		batches = append(batches, []impl.Query{bad}, []impl.Query{query(0, 0), bad}, []impl.Query{bad, query(20, 0)})
	}
	return batches
}

// stabSetOf is an independent statement of StabSet for valid arguments: it asks each query about a row that has, but for this field, values that its conditions contain.
func stabSetOf(l []impl.Query, field, v int) []int {
	var set []int
	for _, q := range l {
		r := row(0, 0, 0, 0)
		for _, c := range q.Conds {
			r.Values[c.Field] = c.Low
		}
		r.Values[field] = v
		if impl.MatchesRow(q, r) {
			set = append(set, q.Id)
		}
	}
	return set
}

func TestStabSet(t *testing.T) {
	l := []impl.Query{query(0, 0, cond(0, 2, 5)), query(1, 0, cond(1, 7, 7)), query(9, 3, cond(0, 5, 9), cond(1, 0, 7)), query(23, 1)}
	for _, c := range []struct {
		why      string
		field, v int
		want     []int
	}{
		{"below all conditions", 0, 1, []int{1, 23}},
		{"Low", 0, 2, []int{0, 1, 23}},
		{"inside", 0, 3, []int{0, 1, 23}},
		{"High of one, Low of another", 0, 5, []int{0, 1, 9, 23}},
		{"above the first High", 0, 6, []int{1, 9, 23}},
		{"above all conditions", 0, 10, []int{1, 23}},
		{"a condition on one value, which is it", 1, 7, []int{0, 1, 9, 23}},
		{"a condition on one value, below it", 1, 6, []int{0, 9, 23}},
		{"a condition on one value, above it", 1, 8, []int{0, 23}},
		{"no condition on the field", 2, 7, []int{0, 1, 9, 23}},
		{"the least value", 0, 0, []int{1, 23}},
		{"the greatest value", 0, 99, []int{1, 23}},
		{"the greatest value without conditions", 2, 99, []int{0, 1, 9, 23}},
	} {
		if got := impl.StabSet(l, c.field, c.v); !slices.Equal(got, c.want) {
			t.Errorf("%s: StabSet(%d, %d) = %v, want %v", c.why, c.field, c.v, got, c.want)
		}
	}
	for v := range 100 {
		if got := impl.StabSet(nil, v%3, v); len(got) != 0 {
			t.Errorf("StabSet(nil, %d, %d) = %v", v%3, v, got)
		}
	}
}

// TestStabSetOfOneValue tries conditions on one value, at all values of all fields.
func TestStabSetOfOneValue(t *testing.T) {
	for field := range 3 {
		for only := range 100 {
			l := []impl.Query{query(5, 2, cond(field, only, only))}
			for v := range 100 {
				got := impl.StabSet(l, field, v)
				if v == only && !slices.Equal(got, []int{5}) || v != only && len(got) != 0 {
					t.Fatalf("StabSet(%v, %d, %d) = %v", l, field, v, got)
				}
			}
		}
	}
}

func TestStabSetOfBatches(t *testing.T) {
	for _, l := range stabBatches() {
		for field := range 3 {
			for v := range 100 {
				if got, want := impl.StabSet(l, field, v), stabSetOf(l, field, v); !slices.Equal(got, want) {
					t.Fatalf("StabSet(%v, %d, %d) = %v, want %v", l, field, v, got, want)
				}
			}
		}
	}
}

func TestStabSetRefuses(t *testing.T) {
	l := []impl.Query{query(3, 1), query(5, 1, cond(0, 0, 99), cond(1, 0, 99), cond(2, 0, 99))}
	for _, field := range numbersAround(2) {
		for _, v := range []int{0, 1, 99} {
			if got := impl.StabSet(l, field, v); len(got) != 0 {
				t.Errorf("StabSet with the field %d = %v", field, got)
			}
		}
	}
	for _, v := range numbersAround(99) {
		for field := range 3 {
			if got := impl.StabSet(l, field, v); len(got) != 0 {
				t.Errorf("StabSet of the value %d = %v", v, got)
			}
		}
	}
	for _, bad := range badBatches() {
		for _, v := range []int{0, 1, 2, 50, 99} {
			if got := impl.StabSet(bad, v%3, v); len(got) != 0 {
				t.Errorf("StabSet(%v, %d, %d) = %v for queries that are not valid", bad, v%3, v, got)
			}
		}
	}
}

func TestStabIndex(t *testing.T) {
	two := []impl.Query{query(0, 0, cond(0, 2, 5)), query(1, 0, cond(1, 7, 7))}
	for _, c := range []struct {
		why   string
		l     []impl.Query
		field int
		want  []impl.Span
	}{
		{"a range", two, 0, []impl.Span{span(0, 1, 1), span(2, 5, 0, 1), span(6, 99, 1)}},
		{"a condition on one value", two, 1, []impl.Span{span(0, 6, 0), span(7, 7, 0, 1), span(8, 99, 0)}},
		{"no conditions on the field", two, 2, []impl.Span{span(0, 99, 0, 1)}},
		{"no queries", nil, 0, []impl.Span{span(0, 99)}},
		{"no queries", []impl.Query{}, 2, []impl.Span{span(0, 99)}},
		{"one query alone, on one value", []impl.Query{query(3, 1, cond(0, 5, 5))}, 0, []impl.Span{span(0, 4), span(5, 5, 3), span(6, 99)}},
		{"the least value alone", []impl.Query{query(3, 1, cond(1, 0, 0))}, 1, []impl.Span{span(0, 0, 3), span(1, 99)}},
		{"the greatest value alone", []impl.Query{query(3, 1, cond(2, 99, 99))}, 2, []impl.Span{span(0, 98), span(99, 99, 3)}},
		{"two values side by side", []impl.Query{query(3, 1, cond(0, 5, 5)), query(4, 1, cond(0, 6, 6))}, 0, []impl.Span{span(0, 4), span(5, 5, 3), span(6, 6, 4), span(7, 99)}},
		{"one value twice", []impl.Query{query(3, 1, cond(0, 5, 5)), query(4, 1, cond(0, 5, 5))}, 0, []impl.Span{span(0, 4), span(5, 5, 3, 4), span(6, 99)}},
		{"all values", []impl.Query{query(3, 1, cond(0, 0, 99)), query(4, 1)}, 0, []impl.Span{span(0, 99, 3, 4)}},
		{"equal numbers of queries", []impl.Query{query(4, 0, cond(0, 0, 49)), query(5, 1, cond(0, 50, 99))}, 0, []impl.Span{span(0, 49, 4), span(50, 99, 5)}},
		{"ranges that overlap at one value", []impl.Query{query(4, 0, cond(0, 0, 50)), query(5, 1, cond(0, 50, 99))}, 0, []impl.Span{span(0, 49, 4), span(50, 50, 4, 5), span(51, 99, 5)}},
		{"a set that comes back", []impl.Query{query(4, 0, cond(0, 10, 10)), query(5, 0, cond(0, 20, 20)), query(6, 0, cond(0, 5, 30))}, 0, []impl.Span{span(0, 4), span(5, 9, 6), span(10, 10, 4, 6), span(11, 19, 6), span(20, 20, 5, 6), span(21, 30, 6), span(31, 99)}},
		{"several conditions of one query", []impl.Query{query(9, 0, cond(0, 1, 2), cond(1, 3, 4), cond(2, 5, 6))}, 1, []impl.Span{span(0, 2), span(3, 4, 9), span(5, 99)}},
	} {
		if got := impl.StabIndex(c.l, c.field); spansDump(got) != spansDump(c.want) {
			t.Errorf("%s: StabIndex(%v, %d) = %v, want %v", c.why, c.l, c.field, got, c.want)
		}
	}
}

// TestStabIndexOfBatches checks that the spans are in order, complete, right and the longest ones.
func TestStabIndexOfBatches(t *testing.T) {
	for _, l := range stabBatches() {
		for field := range 3 {
			spans := impl.StabIndex(l, field)
			next := 0
			for i, s := range spans {
				if s.From != next || s.To < s.From {
					t.Fatalf("StabIndex(%v, %d) = %v", l, field, spans)
				}
				for v := s.From; v <= s.To; v++ {
					if !slices.Equal(s.Set, stabSetOf(l, field, v)) {
						t.Fatalf("StabIndex(%v, %d) = %v, wrong for %d", l, field, spans, v)
					}
				}
				if i > 0 && slices.Equal(s.Set, spans[i-1].Set) {
					t.Fatalf("StabIndex(%v, %d) = %v, which has shorter spans than it can", l, field, spans)
				}
				next = s.To + 1
			}
			if next != 100 {
				t.Fatalf("StabIndex(%v, %d) = %v ends before %d", l, field, spans, next)
			}
		}
	}
}

func TestStabIndexRefuses(t *testing.T) {
	for _, field := range numbersAround(2) {
		for _, l := range [][]impl.Query{nil, {query(3, 1)}, {query(3, 1, cond(2, 5, 5))}} {
			if got := impl.StabIndex(l, field); len(got) != 0 {
				t.Errorf("StabIndex(%v, %d) = %v", l, field, got)
			}
		}
	}
	for _, bad := range badBatches() {
		for field := range 3 {
			if got := impl.StabIndex(bad, field); len(got) != 0 {
				t.Errorf("StabIndex(%v, %d) = %v for queries that are not valid", bad, field, got)
			}
		}
	}
}

func TestFindSpan(t *testing.T) {
	gaps := []impl.Span{span(2, 5, 0, 1), span(7, 7, 3), span(8, 8), span(20, 30, 4)}
	mixed := []impl.Span{span(9, 4, 1), span(5, 9, 2), span(0, 99, 3), span(-5, 200, 7, 7, -1)}
	for _, c := range []struct {
		why  string
		l    []impl.Span
		v    int
		want []int
	}{
		{"no spans", nil, 5, nil},
		{"From", gaps, 2, []int{0, 1}},
		{"inside", gaps, 3, []int{0, 1}},
		{"To", gaps, 5, []int{0, 1}},
		{"before the first one", gaps, 1, nil},
		{"in a gap", gaps, 6, nil},
		{"one value", gaps, 7, []int{3}},
		{"an empty set", gaps, 8, nil},
		{"behind one value", gaps, 9, nil},
		{"the last one", gaps, 30, []int{4}},
		{"behind the last one", gaps, 31, nil},
		{"the first one of several", mixed, 5, []int{2}},
		{"the first one of several", mixed, 9, []int{2}},
		{"the first one of several, with an empty set", []impl.Span{span(0, 9), span(0, 99, 1)}, 9, nil},
		{"the first one is not in order", []impl.Span{span(50, 60, 1), span(0, 99, 2)}, 55, []int{1}},
		{"a span without values contains none", mixed, 4, []int{3}},
		{"any set", mixed, 100, []int{7, 7, -1}},
		{"any value", mixed, -5, []int{7, 7, -1}},
		{"any value", mixed, -6, nil},
		{"the greatest int", []impl.Span{span(0, math.MaxInt, 5)}, math.MaxInt, []int{5}},
		{"the least int", []impl.Span{span(math.MinInt, 0, 5)}, math.MinInt, []int{5}},
	} {
		if got := impl.FindSpan(c.l, c.v); !slices.Equal(got, c.want) {
			t.Errorf("%s: FindSpan(%v, %d) = %v, want %v", c.why, c.l, c.v, got, c.want)
		}
	}
}

// TestFindSpanInStabIndex holds both against StabSet, for values out of range too.
func TestFindSpanInStabIndex(t *testing.T) {
	for _, l := range append(stabBatches(), badBatches()...) {
		for field := -1; field <= 3; field++ {
			spans := impl.StabIndex(l, field)
			for v := -2; v <= 102; v++ {
				if got, want := impl.FindSpan(spans, v), impl.StabSet(l, field, v); !slices.Equal(got, want) {
					t.Fatalf("FindSpan(StabIndex(%v, %d), %d) = %v, want %v", l, field, v, got, want)
				}
			}
		}
	}
}

// TestSpansGiveTheMatches is guarantee 3 without its order: meeting the sets of the fields, in whatever order, gives the queries that a row matches.
func TestSpansGiveTheMatches(t *testing.T) {
	rows := goodRows()[:216]
	for v := range 100 {
		rows = append(rows, row(v, v, 99-v, 37*v%100), row(v, v%10, v, v))
	}
	for _, l := range stabBatches() {
		var fields [3][]impl.Span
		for field := range 3 {
			fields[field] = impl.StabIndex(l, field)
		}
		for _, r := range rows {
			var want []int
			for _, q := range l {
				if impl.MatchesRow(q, r) {
					want = append(want, q.Id)
				}
			}
			for _, order := range [][]int{{0, 1, 2}, {0, 2, 1}, {1, 0, 2}, {1, 2, 0}, {2, 0, 1}, {2, 1, 0}} {
				got := allMembers()
				for _, field := range order {
					got = impl.MeetSets(got, impl.FindSpan(fields[field], r.Values[field]))
				}
				if !slices.Equal(got, want) {
					t.Fatalf("the spans of %v give %v for %v in the order %v, want %v", l, got, r, order, want)
				}
			}
		}
	}
}

func TestEqualSpans(t *testing.T) {
	full := []impl.Span{span(0, 4), span(5, 5, 3, 9), span(6, 99, 1)}
	// Each list differs from the others in one respect.
	lists := [][]impl.Span{
		nil,
		full,
		full[1:],
		full[:2],
		{span(1, 4), full[1], full[2]},
		{span(0, 3), full[1], full[2]},
		{span(0, 4, 0), full[1], full[2]},
		{full[0], span(5, 5, 3), full[2]},
		{full[0], span(5, 5, 9, 3), full[2]},
		{full[0], span(5, 5, 3, 8), full[2]},
		{full[0], span(5, 5, 3, 9, 9), full[2]},
		{full[0], full[1], span(6, 98, 1)},
		{full[0], full[1], span(6, 99)},
		{full[1], full[0], full[2]},
		{full[0], full[1], full[2], span(0, 0)},
		{span(0, 0)},
		{span(-1, math.MaxInt, -7)},
		{span(math.MinInt, -1, -7)},
		{span(0, 0), span(0, 0)},
	}
	for i, a := range lists {
		for k, b := range lists {
			if got := impl.EqualSpans(a, b); got != (i == k) {
				t.Errorf("EqualSpans(%v, %v) = %v", a, b, got)
			}
		}
		var copied []impl.Span
		for _, s := range a {
			copied = append(copied, span(s.From, s.To, slices.Clone(s.Set)...))
		}
		if !impl.EqualSpans(a, copied) || !impl.EqualSpans(copied, a) {
			t.Errorf("EqualSpans(%v) of a copy = false", a)
		}
	}
	if !impl.EqualSpans(nil, []impl.Span{}) || !impl.EqualSpans([]impl.Span{}, nil) || !impl.EqualSpans([]impl.Span{{Set: nil}}, []impl.Span{{Set: []int{}}}) {
		t.Error("EqualSpans takes the forms of an empty list for different")
	}
}

func TestFormatSpans(t *testing.T) {
	for _, c := range []struct {
		l    []impl.Span
		want string
	}{
		{nil, "none"},
		{[]impl.Span{}, "none"},
		{[]impl.Span{span(0, 99)}, "0..99 none"},
		{[]impl.Span{{}}, "0..0 none"},
		{[]impl.Span{span(7, 7, 23)}, "7..7 23"},
		{[]impl.Span{span(99, 99, allMembers()...)}, "99..99 0-23"},
		{[]impl.Span{span(0, 1, 1), span(2, 5, 0, 1), span(6, 99, 1)}, "0..1 1; 2..5 0-1; 6..99 1"},
		{[]impl.Span{span(0, 4), span(5, 5, 0, 1, 2, 3, 7), span(6, 99, 9, 11)}, "0..4 none; 5..5 0-3 7; 6..99 9 11"},
		{[]impl.Span{span(9, 10, 1), span(9, 10, 1), span(0, 4, 2)}, "9..10 1; 9..10 1; 0..4 2"},
	} {
		if got := impl.FormatSpans(c.l); got != c.want {
			t.Errorf("FormatSpans(%v) = %q, want %q", c.l, got, c.want)
		}
	}
	for _, l := range stabBatches() {
		for field := range 3 {
			var texts []string
			spans := impl.StabIndex(l, field)
			for _, s := range spans {
				texts = append(texts, fmt.Sprintf("%d..%d %s", s.From, s.To, setTextOf(s.Set)))
			}
			if got, want := impl.FormatSpans(spans), strings.Join(texts, "; "); got != want {
				t.Fatalf("FormatSpans(%v) = %q, want %q", spans, got, want)
			}
		}
	}
}

func TestFormatSpansRefuses(t *testing.T) {
	bad := []impl.Span{
		span(3, 2),
		span(99, 0),
		span(-1, 2),
		span(-2, -1),
		span(0, 100),
		span(100, 100),
		span(0, -1),
		span(math.MinInt, 0),
		span(0, math.MaxInt),
		span(math.MinInt, math.MaxInt),
		span(math.MaxInt, math.MinInt),
		span(1<<32, 1<<32),
	}
	for _, l := range nonSets {
		bad = append(bad, span(0, 99, l...))
	}
	good := span(2, 5, 1)
	for _, s := range bad {
		for _, l := range [][]impl.Span{{s}, {s, good}, {good, s}, {good, s, good}} {
			if got := impl.FormatSpans(l); got != "" {
				t.Errorf("FormatSpans(%v) = %q", l, got)
			}
		}
	}
}

// TestFormatSpansOfAllRanges tries each pair of numbers around the range.
func TestFormatSpansOfAllRanges(t *testing.T) {
	for from := -3; from <= 103; from++ {
		for to := -3; to <= 103; to++ {
			want := ""
			if from >= 0 && to >= from && to <= 99 {
				want = fmt.Sprintf("%d..%d 4-6", from, to)
			}
			if got := impl.FormatSpans([]impl.Span{span(from, to, 4, 5, 6)}); got != want {
				t.Fatalf("FormatSpans of the span from %d to %d = %q", from, to, got)
			}
		}
	}
}

// TestSpansAreLeftAlone watches the arguments, their unused capacity included, while a result is written to.
func TestSpansAreLeftAlone(t *testing.T) {
	conds := []impl.Cond{cond(0, 2, 5), cond(2, 0, 9), cond(7, 7, 7)}
	queries := []impl.Query{query(3, 1, conds[:2]...), query(4, 1), query(5, 1), {}}
	set := []int{3, 5, 9, 8}
	spans := []impl.Span{span(0, 4, set[:2]...), {From: 5, To: 99, Set: set[:0]}, span(7, 7, 7)}
	state := func() string { return fmt.Sprint(conds, queries, set, spans) }
	before := state()
	for range 2 {
		stabbed := impl.StabSet(queries[:3], 0, 3)
		stabbed[0] = -1
		_ = append(stabbed, -2)
		index := impl.StabIndex(queries[:3], 0)
		for i := range index {
			index[i].From = -3
			index[i].Set[0] = -4
			_ = append(index[i].Set, -5)
		}
		_ = append(index, span(-6, -6, -6))
		for _, v := range []int{3, 50} {
			found := impl.FindSpan(spans[:2], v)
			for i := range found {
				found[i] = -7
			}
			_ = append(found, -8)
		}
		impl.EqualSpans(spans[:2], spans[:2])
		impl.FormatSpans(spans[:2])
		if state() != before {
			t.Fatalf("an argument changed: %s, was %s", state(), before)
		}
	}
}

// TestSpansShareNothing writes to each span of a result and looks at the others.
func TestSpansShareNothing(t *testing.T) {
	for _, l := range stabBatches() {
		for field := range 3 {
			index := impl.StabIndex(l, field)
			want := spansDump(index)
			for i := range index {
				_ = append(index[i].Set, -1, -1, -1)
				if got := spansDump(index); got != want {
					t.Fatalf("spans share memory: %s, was %s", got, want)
				}
				if len(index[i].Set) == 0 {
					continue
				}
				kept := index[i].Set[0]
				index[i].Set[0] = -2
				for k := range index {
					if k != i && slices.Contains(index[k].Set, -2) {
						t.Fatalf("spans share memory: %v", index)
					}
				}
				index[i].Set[0] = kept
			}
		}
	}
}
