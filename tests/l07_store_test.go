package tests

import (
	"fmt"
	"math"
	"slices"
	"testing"

	"loop.example/g01986/impl"
)

// lived returns a version with any numbers.
func lived(born, died, id int, values ...int) impl.Version {
	return impl.Version{Id: id, Values: values, Born: born, Died: died}
}

// living returns a version that did not die, of a row whose values follow from its number.
func living(born, id int) impl.Version { return lived(born, -1, id, id%100, id%7, born%100) }

// storeOf returns a store with any segments.
func storeOf(now int, segments ...[]impl.Version) impl.Store {
	return impl.Store{Segments: segments, Now: now}
}

// storeDump writes any store without the empty forms of a list being different.
func storeDump(s impl.Store) string {
	text := fmt.Sprintf("now %d", s.Now)
	for _, l := range s.Segments {
		text += fmt.Sprintf("; %d:", len(l))
		for _, v := range l {
			text += fmt.Sprintf(" %d %v %d-%d", v.Id, v.Values, v.Born, v.Died)
		}
	}
	return text
}

// smallStore has versions of the rows 1, 2 and 3 in two full segments and an empty one between them.
func smallStore() impl.Store {
	return storeOf(5,
		[]impl.Version{lived(3, -1, 1, 1, 1, 1), lived(0, 3, 1, 1, 0, 0), lived(1, 2, 2, 2, 0, 0), lived(2, 5, 2, 2, 1, 1)},
		nil,
		[]impl.Version{lived(5, -1, 2, 2, 2, 2), lived(0, 1, 2, 2, 9, 9), lived(4, 5, 3, 3, 1, 1), lived(0, 2, 3, 3, 0, 0)})
}

// fullStore has as many versions as there is room for, all of different rows.
func fullStore() impl.Store {
	s := storeOf(0)
	for segment := range 8 {
		var l []impl.Version
		for i := range 4 {
			l = append(l, living(0, 10*i+segment))
		}
		s.Segments = append(s.Segments, l)
	}
	return s
}

// chainStore has as many versions as there is room for, all of one row: each one is born when another one dies.
func chainStore() impl.Store {
	s := storeOf(31, make([][]impl.Version, 8)...)
	for i := range 32 {
		v := lived(i, i+1, 7, i, 0, 0)
		if i == 31 {
			v.Died = -1
		}
		// Not in the order of their times.
		s.Segments[i*3%8] = append([]impl.Version{v}, s.Segments[i*3%8]...)
	}
	return s
}

// goodStores are valid, with empty and full segments, limits and the least distances among them.
func goodStores() []impl.Store {
	last := 100000
	return []impl.Store{
		storeOf(0, nil),
		storeOf(0, []impl.Version{}),
		storeOf(0, make([][]impl.Version, 8)...),
		storeOf(last, nil, nil),
		storeOf(0, []impl.Version{living(0, 0)}),
		storeOf(0, []impl.Version{living(0, 999), lived(0, -1, 0, 99, 99, 99), lived(0, -1, 500, 0, 0, 0)}),
		storeOf(0, []impl.Version{living(0, 4), living(0, 3), living(0, 2), living(0, 1)}),
		storeOf(0, nil, []impl.Version{living(0, 4), living(0, 3), living(0, 2), living(0, 1)}, nil),
		storeOf(1, []impl.Version{lived(0, 1, 5, 1, 2, 3)}),
		storeOf(1, []impl.Version{lived(0, 1, 5, 1, 2, 3), living(1, 5)}),
		storeOf(1, []impl.Version{living(1, 5)}, []impl.Version{lived(0, 1, 5, 1, 2, 3)}),
		storeOf(3, []impl.Version{lived(0, 1, 5, 1, 2, 3), lived(1, 2, 5, 1, 2, 3), lived(2, 3, 5, 1, 2, 3), lived(3, -1, 5, 1, 2, 3)}),
		storeOf(9, []impl.Version{lived(6, 9, 5, 1, 2, 3), lived(0, 2, 5, 1, 2, 3)}),
		storeOf(last, []impl.Version{lived(0, last, 1, 1, 2, 3), lived(last-1, last, 2, 1, 2, 3), living(last, 3), living(last, 1)}),
		smallStore(),
		fullStore(),
		chainStore(),
	}
}

// badVersions are such that no store has them at the time 5.
func badVersions() []impl.Version {
	l := []impl.Version{}
	for _, r := range badRows {
		l = append(l, lived(0, -1, r.Id, r.Values...), lived(1, 4, r.Id, r.Values...))
	}
	for _, born := range []int{-1, -2, 6, 7, 1 << 32, math.MinInt, math.MaxInt} {
		l = append(l, lived(born, -1, 50, 1, 2, 3), lived(born, 5, 50, 1, 2, 3), lived(born, 6, 50, 1, 2, 3), lived(born, born+1, 50, 1, 2, 3))
	}
	for _, died := range []int{0, 1, 2, 3, 6, 7, -2, -3, 1<<32 + 4, math.MinInt, math.MaxInt} {
		l = append(l, lived(3, died, 50, 1, 2, 3))
	}
	return append(l, lived(0, 0, 50, 1, 2, 3), lived(5, 5, 50, 1, 2, 3), lived(5, 4, 50, 1, 2, 3), lived(5, 6, 50, 1, 2, 3), lived(0, -2, 50, 1, 2, 3))
}

// badStores are stores that no function takes for valid, most of them for one reason alone.
func badStores() []impl.Store {
	l := []impl.Store{{}, storeOf(0), storeOf(0, make([][]impl.Version, 9)...), storeOf(0, make([][]impl.Version, 1000)...)}
	for _, now := range numbersAround(100000) {
		l = append(l, storeOf(now, nil), storeOf(now, []impl.Version{living(0, 1)}))
	}
	for _, count := range []int{5, 6, 8, 99} {
		var long []impl.Version
		for i := range count {
			long = append(long, living(0, i))
		}
		l = append(l, storeOf(0, long), storeOf(0, long, nil), storeOf(0, nil, long))
	}
	for _, bad := range badVersions() {
		l = append(l, storeOf(5, []impl.Version{bad}), storeOf(5, []impl.Version{living(0, 8), bad, living(0, 9)}), storeOf(5, nil, []impl.Version{living(0, 8)}, []impl.Version{living(0, 9), bad}))
	}
	for _, change := range []func(s *impl.Store){
		func(s *impl.Store) { s.Now = 4 },
		func(s *impl.Store) { s.Now = 0 },
		func(s *impl.Store) { s.Segments[0] = append(s.Segments[0], living(5, 9)) },
		func(s *impl.Store) { s.Segments[2] = append(s.Segments[2], lived(0, 1, 9, 1, 2, 3)) },
		func(s *impl.Store) { s.Segments = append(s.Segments, make([][]impl.Version, 6)...) },
		// Two versions of one row at the same time.
		func(s *impl.Store) { s.Segments[0][0].Id = 2 },
		func(s *impl.Store) { s.Segments[0][0].Born = 2 },
		func(s *impl.Store) { s.Segments[0][1].Died = 4 },
		func(s *impl.Store) { s.Segments[0][1].Died = -1 },
		func(s *impl.Store) { s.Segments[0][2].Born = 0 },
		func(s *impl.Store) { s.Segments[2][2].Id = 1 },
		func(s *impl.Store) { s.Segments[2][3].Died = 5 },
		func(s *impl.Store) { s.Segments[1] = s.Segments[2] },
		func(s *impl.Store) { s.Segments[1] = []impl.Version{living(5, 1)} },
		func(s *impl.Store) { s.Segments[1] = []impl.Version{lived(4, 5, 3, 9, 9, 9)} },
	} {
		s := smallStore()
		change(&s)
		l = append(l, s)
	}
	return l
}

// isSeen is an independent statement of IsVisible.
func isSeen(v impl.Version, time int) bool {
	if time < v.Born {
		return false
	}
	return v.Died == -1 || time < v.Died
}

// rowsOf is an independent statement of RowsAt for valid stores.
func rowsOf(s impl.Store, time int) []impl.Row {
	var rows []impl.Row
	for id := range 1000 {
		for _, l := range s.Segments {
			for _, v := range l {
				if v.Id == id && isSeen(v, time) {
					rows = append(rows, impl.Row{Id: id, Values: v.Values})
				}
			}
		}
	}
	return rows
}

func TestStoreConstants(t *testing.T) {
	if impl.SegmentSize != 4 || impl.MaxSegments != 8 || impl.Alive != -1 || impl.MaxTime != 100000 {
		t.Error(impl.SegmentSize, impl.MaxSegments, impl.Alive, impl.MaxTime)
	}
}

func TestNewStore(t *testing.T) {
	a, b, c := row(3, 1, 2, 3), row(5, 0, 0, 0), row(999, 99, 99, 99)
	va, vb, vc := lived(0, -1, 3, 1, 2, 3), lived(0, -1, 5, 0, 0, 0), lived(0, -1, 999, 99, 99, 99)
	for _, x := range []struct {
		why      string
		rows     []impl.Row
		segments int
		want     impl.Store
	}{
		{"no rows", nil, 1, storeOf(0, nil)},
		{"no rows", []impl.Row{}, 8, storeOf(0, make([][]impl.Version, 8)...)},
		{"one segment", []impl.Row{a, b, c}, 1, storeOf(0, []impl.Version{va, vb, vc})},
		{"two segments", []impl.Row{a, b, c}, 2, storeOf(0, []impl.Version{va, vc}, []impl.Version{vb})},
		{"as many segments as rows", []impl.Row{a, b, c}, 3, storeOf(0, []impl.Version{va}, []impl.Version{vb}, []impl.Version{vc})},
		{"more segments than rows", []impl.Row{a, b, c}, 4, storeOf(0, []impl.Version{va}, []impl.Version{vb}, []impl.Version{vc}, nil)},
	} {
		if got, ok := impl.NewStore(x.rows, x.segments); !ok || storeDump(got) != storeDump(x.want) {
			t.Errorf("%s: NewStore(%v, %d) = %s, %v, want %s", x.why, x.rows, x.segments, storeDump(got), ok, storeDump(x.want))
		}
	}
}

// TestNewStoreOfAllSizes holds each number of rows and of segments, full segments among them, against the room that there is.
func TestNewStoreOfAllSizes(t *testing.T) {
	for count := 0; count <= 34; count++ {
		rows := ascending(20, count)
		for segments := -2; segments <= 11; segments++ {
			got, ok := impl.NewStore(rows, segments)
			if segments < 1 || segments > 8 || count > 4*segments {
				if ok || got.Now != 0 || len(got.Segments) != 0 {
					t.Errorf("NewStore of %d rows and %d segments = %s, %v", count, segments, storeDump(got), ok)
				}
				continue
			}
			want := storeOf(0, make([][]impl.Version, segments)...)
			for i, r := range rows {
				want.Segments[i%segments] = append(want.Segments[i%segments], lived(0, -1, r.Id, r.Values...))
			}
			if !ok || storeDump(got) != storeDump(want) {
				t.Errorf("NewStore of %d rows and %d segments = %s, %v, want %s", count, segments, storeDump(got), ok, storeDump(want))
			}
			if !impl.IsStore(got) || impl.CountVersions(got) != count || rowsText(impl.RowsAt(got, 0)) != rowsText(rows) {
				t.Errorf("the store %s does not have the rows of which it was made", storeDump(got))
			}
		}
	}
}

func TestNewStoreRefuses(t *testing.T) {
	check := func(rows []impl.Row, segments int) {
		if got, ok := impl.NewStore(rows, segments); ok || got.Now != 0 || len(got.Segments) != 0 {
			t.Errorf("NewStore(%v, %d) = %s, %v", rows, segments, storeDump(got), ok)
		}
	}
	for _, bad := range badRows {
		for _, rows := range [][]impl.Row{{bad}, {row(0, 0, 0, 0), bad}, {bad, row(500, 0, 0, 0)}} {
			check(rows, 1)
			check(rows, 8)
		}
	}
	for _, rows := range [][]impl.Row{{row(1, 0, 0, 0), row(1, 0, 0, 0)}, {row(2, 0, 0, 0), row(1, 0, 0, 0)}, ascending(0, 33), ascending(998, 3)} {
		check(rows, 2)
		check(rows, 8)
	}
	for _, segments := range append(numbersAround(8), 0, 9, math.MaxInt/4+1, math.MaxInt/4+3) {
		check(nil, segments)
		check(ascending(0, 1), segments)
	}
}

func TestIsStore(t *testing.T) {
	for _, s := range goodStores() {
		if !impl.IsStore(s) {
			t.Errorf("IsStore(%s) = false", storeDump(s))
		}
	}
	for _, s := range badStores() {
		if impl.IsStore(s) {
			t.Errorf("IsStore(%s) = true", storeDump(s))
		}
	}
}

// TestIsStoreOfAllTimes holds all small numbers for Now and the times of a version against the limits.
func TestIsStoreOfAllTimes(t *testing.T) {
	for now := -2; now <= 4; now++ {
		for born := -3; born <= 6; born++ {
			for died := -3; died <= 7; died++ {
				want := 0 <= now && 0 <= born && born <= now && (died == -1 || born < died && died <= now)
				if got := impl.IsStore(storeOf(now, []impl.Version{lived(born, died, 1, 2, 3, 4)})); got != want {
					t.Errorf("IsStore at the time %d with a version from %d to %d = %v", now, born, died, got)
				}
			}
		}
	}
}

// versionsUntil returns all valid versions of a row at a time.
func versionsUntil(now, id int) []impl.Version {
	var l []impl.Version
	for born := range now + 1 {
		l = append(l, living(born, id))
		for died := born + 1; died <= now; died++ {
			l = append(l, lived(born, died, id, born, died, 0))
		}
	}
	return l
}

// TestIsStoreOfAllPairs puts all pairs of versions into one segment and into two, and looks for a time at which both are visible.
func TestIsStoreOfAllPairs(t *testing.T) {
	now := 4
	for _, a := range versionsUntil(now, 6) {
		for _, b := range versionsUntil(now, 6) {
			together := false
			for time := range now + 2 {
				together = together || isSeen(a, time) && isSeen(b, time)
			}
			other := b
			other.Id = 7
			for _, c := range []struct {
				b    impl.Version
				want bool
			}{{b, !together}, {other, true}} {
				for _, s := range []impl.Store{storeOf(now, []impl.Version{a, c.b}), storeOf(now, nil, []impl.Version{a}, nil, []impl.Version{living(0, 1), c.b})} {
					if got := impl.IsStore(s); got != c.want {
						t.Errorf("IsStore(%s) = %v", storeDump(s), got)
					}
				}
			}
		}
	}
}

// TestIsStoreLooksAtAllPairs lets any two versions of a full store be of one row.
func TestIsStoreLooksAtAllPairs(t *testing.T) {
	for i := range 32 {
		for k := range i {
			s := fullStore()
			s.Segments[i%8][i/8].Id = s.Segments[k%8][k/8].Id
			if impl.IsStore(s) {
				t.Errorf("IsStore(%s) = true", storeDump(s))
			}
		}
	}
}

func TestIsVisible(t *testing.T) {
	for _, c := range []struct {
		why  string
		v    impl.Version
		time int
		want bool
	}{
		{"before it is born", lived(1, 3, 1), 0, false},
		{"when it is born", lived(1, 3, 1), 1, true},
		{"while it lives", lived(1, 3, 1), 2, true},
		{"when it dies", lived(1, 3, 1), 3, false},
		{"after its death", lived(1, 3, 1), 4, false},
		{"alive", living(2, 1), 2, true},
		{"alive, long after", living(2, 1), math.MaxInt, true},
		{"alive, before it is born", living(2, 1), 1, false},
		{"before all times", living(0, 1), -1, false},
		{"before all times", lived(0, 5, 1), math.MinInt, false},
		{"the last time", lived(99999, 100000, 1), 99999, true},
		{"the last time", lived(99999, 100000, 1), 100000, false},
		{"a version that is not valid", impl.Version{Id: -5, Died: -1}, 0, true},
		{"a version that is not valid", lived(-9, -2, 1), -3, true},
		{"a version that is not valid", lived(-9, -2, 1), -2, false},
		{"alive from a negative time on", lived(-9, -1, 1), -9, true},
		{"dead before it is born", lived(5, 3, 1), 4, false},
		{"the zero value", impl.Version{}, 0, false},
		{"the ends of the range of int", lived(math.MinInt, math.MaxInt, 1), math.MinInt, true},
		{"the ends of the range of int", lived(math.MinInt, math.MaxInt, 1), math.MaxInt, false},
		{"the ends of the range of int", lived(math.MaxInt, -1, 1), math.MaxInt, true},
		{"the ends of the range of int", lived(math.MaxInt, math.MinInt, 1), math.MaxInt, false},
	} {
		if got := impl.IsVisible(c.v, c.time); got != c.want {
			t.Errorf("%s: IsVisible(%v, %d) = %v", c.why, c.v, c.time, got)
		}
	}
	for born := -3; born <= 5; born++ {
		for died := -4; died <= 6; died++ {
			for time := -5; time <= 7; time++ {
				if got := impl.IsVisible(lived(born, died, 1, 2, 3, 4), time); got != isSeen(lived(born, died, 1), time) {
					t.Errorf("IsVisible of %d to %d at %d = %v", born, died, time, got)
				}
			}
		}
	}
}

func TestRowsAt(t *testing.T) {
	s := smallStore()
	for _, c := range []struct {
		time int
		want string
	}{
		{math.MinInt, ""},
		{-1, ""},
		{0, "1:[1 0 0] 2:[2 9 9] 3:[3 0 0]"},
		{1, "1:[1 0 0] 2:[2 0 0] 3:[3 0 0]"},
		{2, "1:[1 0 0] 2:[2 1 1]"},
		{3, "1:[1 1 1] 2:[2 1 1]"},
		{4, "1:[1 1 1] 2:[2 1 1] 3:[3 1 1]"},
		{5, "1:[1 1 1] 2:[2 2 2]"},
		{6, "1:[1 1 1] 2:[2 2 2]"},
		{100001, "1:[1 1 1] 2:[2 2 2]"},
		{math.MaxInt, "1:[1 1 1] 2:[2 2 2]"},
	} {
		if got := rowsText(impl.RowsAt(s, c.time)); got != c.want {
			t.Errorf("RowsAt the time %d = %s, want %s", c.time, got, c.want)
		}
	}
	for time := range 32 {
		if got, want := rowsText(impl.RowsAt(chainStore(), time)), rowText(row(7, time, 0, 0)); got != want {
			t.Errorf("RowsAt the time %d of a row that changes each time = %s, want %s", time, got, want)
		}
	}
	if got := impl.RowsAt(fullStore(), 0); len(got) != 32 || got[0].Id != 0 || got[8].Id != 10 || got[31].Id != 37 {
		t.Errorf("RowsAt of a full store = %v", got)
	}
}

func TestRowsAtOfStores(t *testing.T) {
	for _, s := range goodStores() {
		for _, time := range []int{-1, 0, 1, 2, 3, 4, 5, 6, 9, 30, 31, 32, 99998, 99999, 100000, 100001} {
			if got, want := rowsText(impl.RowsAt(s, time)), rowsText(rowsOf(s, time)); got != want {
				t.Errorf("RowsAt(%s, %d) = %s, want %s", storeDump(s), time, got, want)
			}
		}
	}
}

func TestSegmentRows(t *testing.T) {
	s := smallStore()
	for _, c := range []struct {
		segment, time int
		want          string
	}{
		{0, 0, "1:[1 0 0]"},
		{0, 1, "1:[1 0 0] 2:[2 0 0]"},
		{0, 4, "1:[1 1 1] 2:[2 1 1]"},
		{0, 5, "1:[1 1 1]"},
		{0, -1, ""},
		{1, 0, ""},
		{1, 5, ""},
		{2, 0, "2:[2 9 9] 3:[3 0 0]"},
		{2, 2, ""},
		{2, 3, ""},
		{2, 4, "3:[3 1 1]"},
		{2, 5, "2:[2 2 2]"},
		{2, math.MaxInt, "2:[2 2 2]"},
		{-1, 0, ""},
		{3, 0, ""},
		{1 << 32, 0, ""},
		{math.MinInt, 0, ""},
		{math.MaxInt, 0, ""},
	} {
		if got := rowsText(impl.SegmentRows(s, c.segment, c.time)); got != c.want {
			t.Errorf("SegmentRows of %d at %d = %s, want %s", c.segment, c.time, got, c.want)
		}
	}
	backward := storeOf(2, []impl.Version{lived(0, -1, 9, 0, 0, 9), lived(1, -1, 4, 0, 0, 4), lived(0, 2, 7, 0, 0, 7), lived(0, -1, 1, 0, 0, 1)})
	if got, want := rowsText(impl.SegmentRows(backward, 0, 1)), "9:[0 0 9] 4:[0 0 4] 7:[0 0 7] 1:[0 0 1]"; got != want {
		t.Errorf("SegmentRows of a full segment = %s, want the order of its versions, %s", got, want)
	}
	if got, want := rowsText(impl.SegmentRows(backward, 0, 2)), "9:[0 0 9] 4:[0 0 4] 1:[0 0 1]"; got != want {
		t.Errorf("SegmentRows after a death = %s, want %s", got, want)
	}
}

// TestSegmentRowsOfStores puts the rows of all segments together, which are then those of the store.
func TestSegmentRowsOfStores(t *testing.T) {
	for _, s := range goodStores() {
		for _, time := range []int{-1, 0, 1, 2, 3, 4, 5, 9, 31, 99999, 100000, 100001} {
			var all []impl.Row
			for i, l := range s.Segments {
				var want []impl.Row
				for _, v := range l {
					if isSeen(v, time) {
						want = append(want, row(v.Id, v.Values...))
					}
				}
				got := impl.SegmentRows(s, i, time)
				if rowsText(got) != rowsText(want) {
					t.Errorf("SegmentRows(%s, %d, %d) = %v, want %v", storeDump(s), i, time, got, want)
				}
				all = append(all, got...)
			}
			if got := impl.RowsAt(s, time); rowsText(got) != rowsText(impl.SortRows(all)) {
				t.Errorf("RowsAt(%s, %d) = %v, but the segments have %v", storeDump(s), time, got, all)
			}
			for _, none := range []int{-1, len(s.Segments), len(s.Segments) + 1} {
				if got := impl.SegmentRows(s, none, time); len(got) != 0 {
					t.Errorf("SegmentRows(%s, %d, %d) = %v for no segment", storeDump(s), none, time, got)
				}
			}
		}
	}
}

func TestRowsOfBadStores(t *testing.T) {
	for _, s := range badStores() {
		for _, time := range []int{-1, 0, 1, 3, 5, 6, s.Now} {
			if got := impl.RowsAt(s, time); len(got) != 0 {
				t.Errorf("RowsAt(%s, %d) = %v for a store that is not valid", storeDump(s), time, got)
			}
			for segment := -1; segment <= 9; segment++ {
				if got := impl.SegmentRows(s, segment, time); len(got) != 0 {
					t.Errorf("SegmentRows(%s, %d, %d) = %v for a store that is not valid", storeDump(s), segment, time, got)
				}
			}
		}
	}
}

func TestCountVersions(t *testing.T) {
	for _, c := range []struct {
		why  string
		s    impl.Store
		want int
	}{
		{"the zero value", impl.Store{}, 0},
		{"empty segments", storeOf(5, nil, []impl.Version{}, nil), 0},
		{"dead and alive ones", smallStore(), 8},
		{"full segments", fullStore(), 32},
		{"full segments", chainStore(), 32},
		{"a time that is not valid", storeOf(-1, []impl.Version{{}}), 1},
		{"versions that are not valid", storeOf(5, badVersions(), badVersions()[:7]), len(badVersions()) + 7},
		{"more segments than a store has", storeOf(0, make([][]impl.Version, 50)...), 0},
		{"a row twice", storeOf(0, []impl.Version{living(0, 1), living(0, 1)}, []impl.Version{living(0, 1)}), 3},
	} {
		if got := impl.CountVersions(c.s); got != c.want {
			t.Errorf("%s: CountVersions(%s) = %d, want %d", c.why, storeDump(c.s), got, c.want)
		}
	}
}

func TestEqualStores(t *testing.T) {
	one := func(v impl.Version) impl.Store { return storeOf(5, []impl.Version{v}) }
	for _, c := range []struct {
		why  string
		a, b impl.Store
		want bool
	}{
		{"the zero value", impl.Store{}, impl.Store{}, true},
		{"the forms of an empty list", impl.Store{}, impl.Store{Segments: [][]impl.Version{}}, true},
		{"the forms of an empty list", storeOf(5, nil), storeOf(5, []impl.Version{}), true},
		{"the forms of an empty list", one(impl.Version{Values: []int{}}), one(impl.Version{}), true},
		{"no segment and an empty one", storeOf(5), storeOf(5, nil), false},
		{"an empty segment more", storeOf(5, nil), storeOf(5, nil, nil), false},
		{"another time", storeOf(5, nil), storeOf(6, nil), false},
		{"times that agree in 32 bits", storeOf(5, nil), storeOf(5+1<<32, nil), false},
		{"a version more", storeOf(5, []impl.Version{living(0, 1)}), storeOf(5, []impl.Version{living(0, 1), living(0, 2)}), false},
		{"another segment", storeOf(5, []impl.Version{living(0, 1)}, nil), storeOf(5, nil, []impl.Version{living(0, 1)}), false},
		{"another order", storeOf(5, []impl.Version{living(0, 1), living(0, 2)}), storeOf(5, []impl.Version{living(0, 2), living(0, 1)}), false},
		{"the same rows in one segment and in two", storeOf(5, []impl.Version{living(0, 1), living(0, 2)}), storeOf(5, []impl.Version{living(0, 1)}, []impl.Version{living(0, 2)}), false},
		{"another Id", one(lived(0, 2, 1, 1, 2, 3)), one(lived(0, 2, 2, 1, 2, 3)), false},
		{"another value", one(lived(0, 2, 1, 1, 2, 3)), one(lived(0, 2, 1, 1, 2, 4)), false},
		{"another first value", one(lived(0, 2, 1, 1, 2, 3)), one(lived(0, 2, 1, 2, 2, 3)), false},
		{"another Born", one(lived(0, 2, 1, 1, 2, 3)), one(lived(1, 2, 1, 1, 2, 3)), false},
		{"another Died", one(lived(0, 2, 1, 1, 2, 3)), one(lived(0, 3, 1, 1, 2, 3)), false},
		{"dead and alive", one(lived(0, 2, 1, 1, 2, 3)), one(lived(0, -1, 1, 1, 2, 3)), false},
		{"a missing value is not 0", one(lived(0, 2, 1, 0, 0)), one(lived(0, 2, 1, 0, 0, 0)), false},
		{"a fourth value", one(lived(0, 2, 1, 1, 2, 3, 4)), one(lived(0, 2, 1, 1, 2, 3, 4)), true},
		{"a fourth value differs", one(lived(0, 2, 1, 1, 2, 3, 4)), one(lived(0, 2, 1, 1, 2, 3, 5)), false},
		{"numbers out of range", one(lived(math.MinInt, math.MaxInt, -1, math.MinInt)), one(lived(math.MinInt, math.MaxInt, -1, math.MinInt)), true},
		{"numbers out of range", one(lived(math.MinInt, math.MaxInt, -1, math.MinInt)), one(lived(math.MaxInt, math.MaxInt, -1, math.MinInt)), false},
		{"the last version of many differs", storeOf(5, badVersions(), append(badVersions(), living(0, 1))), storeOf(5, badVersions(), append(badVersions(), living(0, 2))), false},
		{"more segments than a store has", storeOf(5, make([][]impl.Version, 99)...), storeOf(5, make([][]impl.Version, 99)...), true},
	} {
		for range 2 {
			if got := impl.EqualStores(c.a, c.b); got != c.want {
				t.Errorf("%s: EqualStores(%s, %s) = %v", c.why, storeDump(c.a), storeDump(c.b), got)
			}
			c.a, c.b = c.b, c.a
		}
	}
}

// TestEqualStoresOnAllPairs holds each pair of stores, valid or not, against their texts.
func TestEqualStoresOnAllPairs(t *testing.T) {
	stores := append(goodStores(), badStores()...)
	again := append(goodStores(), badStores()...)
	texts := make([]string, len(stores))
	for i, s := range stores {
		texts[i] = storeDump(s)
	}
	for i, a := range stores {
		for k, b := range again {
			if got := impl.EqualStores(a, b); got != (texts[i] == texts[k]) {
				t.Fatalf("EqualStores(%s, %s) = %v", texts[i], texts[k], got)
			}
		}
	}
}

// TestFullSegments fills the segments of a store one by one, and tries one version more each time.
func TestFullSegments(t *testing.T) {
	full := fullStore()
	for i := range full.Segments {
		s := storeOf(0, make([][]impl.Version, 8)...)
		copy(s.Segments, full.Segments[:i+1])
		if !impl.IsStore(s) || impl.CountVersions(s) != 4*(i+1) || len(impl.RowsAt(s, 0)) != 4*(i+1) || len(impl.SegmentRows(s, i, 0)) != 4 {
			t.Errorf("a store with the full segments 0 to %d: IsStore(%s) = %v, %v", i, storeDump(s), impl.IsStore(s), impl.RowsAt(s, 0))
		}
		for _, more := range []impl.Version{living(0, 900), lived(0, 1, 900, 1, 2, 3)} {
			x := storeOf(1, slices.Clone(s.Segments)...)
			x.Segments[i] = append(slices.Clone(s.Segments[i]), more)
			if impl.IsStore(x) || len(impl.RowsAt(x, 0)) != 0 || len(impl.SegmentRows(x, i, 0)) != 0 {
				t.Errorf("IsStore(%s) = true with a version too many", storeDump(x))
			}
		}
	}
}

// history is a store that the test changes itself, with the rows that each time showed when it was the present.
type history struct {
	s     impl.Store
	shown []string
}

// next makes the next time and lets the row with a number be inserted, if there is none, or be replaced or deleted.
func (h *history) next(id int, deletes bool) {
	h.s.Now++
	alive := false
	for _, l := range h.s.Segments {
		for i, v := range l {
			if v.Id == id && v.Died == -1 {
				l[i].Died, alive = h.s.Now, true
			}
		}
	}
	if !alive || !deletes {
		i := slices.IndexFunc(h.s.Segments, func(l []impl.Version) bool { return len(l) < 4 })
		h.s.Segments[i] = append(h.s.Segments[i], living(h.s.Now, id))
	}
	h.shown = append(h.shown, rowsText(rowsOf(h.s, h.s.Now)))
}

// reclaim removes the versions that nobody needs who looks at the times of keep and at the present.
func (h *history) reclaim(keep []int) {
	for i := range h.s.Segments {
		h.s.Segments[i] = slices.DeleteFunc(h.s.Segments[i], func(v impl.Version) bool {
			return v.Died != -1 && !slices.ContainsFunc(keep, func(time int) bool { return isSeen(v, time) })
		})
	}
}

// TestTimesShowWhatTheyShowed is this chapter's part of guarantee 4: what a time shows does not change when versions are added, die and are reclaimed.
func TestTimesShowWhatTheyShowed(t *testing.T) {
	h := history{s: storeOf(0, make([][]impl.Version, 8)...), shown: []string{""}}
	var keep []int
	check := func() {
		if !impl.IsStore(h.s) {
			t.Fatalf("IsStore(%s) = false", storeDump(h.s))
		}
		for _, time := range append(slices.Clone(keep), h.s.Now) {
			if got := rowsText(impl.RowsAt(h.s, time)); got != h.shown[time] {
				t.Fatalf("RowsAt(%s, %d) = %s, but it showed %s", storeDump(h.s), time, got, h.shown[time])
			}
		}
	}
	for n := range 400 {
		if impl.CountVersions(h.s) == 32 {
			// Every other one of the last few times stays.
			keep = []int{h.s.Now - 5, h.s.Now - 3, h.s.Now - 1}
			h.reclaim(keep)
			check()
		}
		h.next(n*n%11+n%3, n%5 == 0)
		keep = append(keep, h.s.Now)
		check()
	}
}

// TestStoresAreLeftAlone watches the arguments, their unused capacity included, while a result is written to.
func TestStoresAreLeftAlone(t *testing.T) {
	values := []int{9, 8, 7, 6, 5}
	rows := []impl.Row{{Id: 1, Values: values[:3]}, {Id: 2, Values: values[1:4]}, row(3, 1, 2, 3), {Id: 77}, {Id: 78}}
	versions := []impl.Version{lived(0, -1, 4, values[:3]...), {Id: 1, Values: values[1:4], Died: 2}, living(1, 2), {Id: 5}, {Id: 6}}
	other := []impl.Version{living(2, 7), {Id: 8}}
	lists := [][]impl.Version{versions[:3], other[:1], nil, versions[3:]}
	s := storeOf(2, lists[:3]...)
	state := func() string {
		return fmt.Sprint(values, rows, versions, other, storeDump(storeOf(s.Now, lists...)), storeDump(s))
	}
	before := state()
	for range 2 {
		built, ok := impl.NewStore(rows[:3], 2)
		if !ok || !impl.IsStore(s) || impl.CountVersions(s) != 4 || !impl.EqualStores(s, storeOf(2, lists[:3]...)) {
			t.Fatalf("the store %s or the rows %v are not valid", storeDump(s), rows[:3])
		}
		for i, l := range built.Segments {
			for k := range l {
				l[k].Values[0] = -1
				_ = append(l[k].Values, -2)
				l[k].Id = -3
			}
			built.Segments[i] = append(l, living(-4, -4))
		}
		_ = append(built.Segments, nil, nil)
		for _, l := range [][]impl.Row{impl.RowsAt(s, 1), impl.SegmentRows(s, 0, 1), impl.RowsAt(s, 5), impl.SegmentRows(s, 1, 5)} {
			for i := range l {
				l[i].Values[2] = -5
				_ = append(l[i].Values, -6, -6)
				l[i].Id = -7
			}
			_ = append(l, row(-8, -8))
		}
		if state() != before {
			t.Fatalf("an argument changed: %s, was %s", state(), before)
		}
	}
}

// TestStoresShareNothing makes a store and lists of rows from one memory, writes to each of their lists and looks at the others.
func TestStoresShareNothing(t *testing.T) {
	values := make([]int, 3, 9)
	rows := []impl.Row{{Id: 1, Values: values}, {Id: 2, Values: values}, {Id: 3, Values: values}, {Id: 4, Values: values}, {Id: 5, Values: values}}
	s, _ := impl.NewStore(rows, 3)
	want := "now 0; 2: 1 [0 0 0] 0--1 4 [0 0 0] 0--1; 2: 2 [0 0 0] 0--1 5 [0 0 0] 0--1; 1: 3 [0 0 0] 0--1"
	for _, l := range s.Segments {
		_, _ = append(l, living(-1, -1), living(-1, -1), living(-1, -1)), append(l[0].Values, -2, -2, -2)
	}
	if got := storeDump(s); got != want {
		t.Errorf("lists share unused memory: %s, want %s", got, want)
	}
	s.Segments[0][0].Values[0], s.Segments[1][1].Values[1] = 5, 6
	if got, want := storeDump(s), "now 0; 2: 1 [5 0 0] 0--1 4 [0 0 0] 0--1; 2: 2 [0 0 0] 0--1 5 [0 6 0] 0--1; 1: 3 [0 0 0] 0--1"; got != want {
		t.Errorf("versions share memory: %s, want %s", got, want)
	}
	shared := storeOf(0, []impl.Version{lived(0, -1, 2, values...), lived(0, -1, 1, values...)})
	for range 2 {
		for _, l := range [][]impl.Row{impl.RowsAt(shared, 0), impl.SegmentRows(shared, 0, 0)} {
			l[0].Values[0] = 7
			_ = append(l[0].Values, 8, 8, 8, 8)
			if got := fmt.Sprint(l[1].Values, values[:9]); got != "[0 0 0] [0 0 0 0 0 0 0 0 0]" {
				t.Errorf("rows share memory: %s", got)
			}
		}
	}
}
