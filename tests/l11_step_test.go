package tests

import (
	"fmt"
	"math"
	"slices"
	"testing"

	"loop.example/g01986/impl"
)

// takesPartIn is an independent statement of who is in a step.
func takesPartIn(e impl.Engine, a impl.Active) bool {
	return slices.Contains(a.Todo, e.Cursor) && (a.Cap == 0 || a.Sent < a.Cap)
}

// partsOf is an independent statement of Participants for valid engines.
func partsOf(e impl.Engine) []int {
	var ids []int
	for _, a := range e.Active {
		if takesPartIn(e, a) {
			ids = append(ids, a.Query.Id)
		}
	}
	return ids
}

// steppedIn is an independent statement of StepEngine for valid engines: it serves one query after the other.
func steppedIn(e impl.Engine) (impl.Engine, bool) {
	if e.Steps > 99999 || len(e.Ledger) > 999 || len(e.Done)+len(e.Active) > 1000 {
		return e, false
	}
	x := cloneEngine(e)
	versions := x.Store.Segments[e.Cursor]
	charge := impl.Charge{Segment: e.Cursor, Base: len(versions)}
	x.Active = nil
	for i, a := range cloneEngine(e).Active {
		if takesPartIn(e, e.Active[i]) {
			before := len(a.Rows)
			for _, v := range versions {
				r := row(v.Id, slices.Clone(v.Values)...)
				if isSeen(v, a.Time) && len(matchesOf([]impl.Query{a.Query}, r)) == 1 {
					a.Rows = append(a.Rows, r)
				}
			}
			a.Sent += len(a.Rows) - before
			a.Todo = slices.DeleteFunc(a.Todo, func(n int) bool { return n == e.Cursor })
			charge.Ids = append(charge.Ids, a.Query.Id)
			charge.Tenants = append(charge.Tenants, a.Query.Tenant)
			charge.Rows = append(charge.Rows, len(a.Rows)-before)
		}
		a.Age++
		if a.Age%len(x.Store.Segments) == 0 {
			a.Sent = 0
		}
		if len(a.Todo) == 0 {
			x.Done = append(x.Done, impl.Finished{Query: a.Query, Time: a.Time, Steps: a.Age, Rows: a.Rows})
		} else {
			x.Active = append(x.Active, a)
		}
	}
	if len(charge.Ids) > 0 {
		x.Ledger = append(x.Ledger, charge)
	}
	x.Cursor++
	if x.Cursor == len(x.Store.Segments) {
		x.Cursor = 0
	}
	x.Steps++
	x.Store, _ = reclaimedFor(x.Store, timesOf(x))
	return x, true
}

// steppedTimes is steppedIn so many times, as long as the engine is valid.
func steppedTimes(e impl.Engine, steps int) impl.Engine {
	for range steps {
		if !impl.IsEngine(e) {
			break
		}
		e, _ = steppedIn(e)
	}
	return e
}

// capped returns a query that matches every row, with the segment 0 in Todo and with this limit and number of rows.
func capped(id, limit, sent int) impl.Active {
	return impl.Active{Query: query(id, id%4), Todo: []int{0}, Cap: limit, Sent: sent}
}

// cursorsOf returns an engine with each cursor that it can have.
func cursorsOf(e impl.Engine) []impl.Engine {
	var l []impl.Engine
	for i := range e.Store.Segments {
		x := cloneEngine(e)
		x.Cursor = i
		l = append(l, x)
	}
	return l
}

func TestIsAwake(t *testing.T) {
	for _, c := range []struct {
		limit, sent int
		want        bool
	}{
		{0, 0, true}, {0, 1, true}, {0, 1000, true},
		{1, 0, true}, {1, 1, false}, {1, 2, false}, {1, 1000, false},
		{3, 2, true}, {3, 3, false}, {3, 4, false},
		{32, 0, true}, {32, 31, true}, {32, 32, false}, {32, 33, false},
	} {
		e := engineOn(storeOf(0, nil, nil))
		e.Active = []impl.Active{capped(4, 1-c.limit/32, 1), capped(5, c.limit, c.sent), capped(9, 1, 0)}
		if got := impl.IsAwake(e, 1); got != c.want {
			t.Errorf("IsAwake with the limit %d and %d rows = %v", c.limit, c.sent, got)
		}
		// It does not matter whether the query has scanned the segment.
		e.Cursor = 1
		if got := impl.IsAwake(e, 1); got != c.want {
			t.Errorf("IsAwake with the limit %d and %d rows = %v at another segment", c.limit, c.sent, got)
		}
	}
	for _, e := range append(goodEngines(), fullEngine()) {
		for i, a := range e.Active {
			if got := impl.IsAwake(e, i); got != (a.Cap == 0 || a.Sent < a.Cap) {
				t.Errorf("IsAwake of %d = %v in %s", i, got, engineDump(e))
			}
		}
		for _, i := range append(numbersAround(8), len(e.Active), len(e.Active)+1, 23) {
			if impl.IsAwake(e, i) {
				t.Errorf("IsAwake of %d = true with %d active queries", i, len(e.Active))
			}
		}
	}
	for _, e := range badEngines() {
		for i := range 10 {
			if impl.IsAwake(e, i) {
				t.Errorf("IsAwake of %d = true in %s", i, engineDump(e))
			}
		}
	}
}

func TestParticipants(t *testing.T) {
	for _, c := range []struct {
		why    string
		change func(e *impl.Engine)
		want   []int
	}{
		{"one query", func(e *impl.Engine) {}, []int{2}},
		{"two queries", func(e *impl.Engine) { e.Cursor = 0 }, []int{2, 20}},
		{"all queries", func(e *impl.Engine) { e.Cursor = 2 }, []int{2, 5, 20}},
		{"asleep", func(e *impl.Engine) { e.Cursor, e.Active[0].Sent = 2, 3 }, []int{5, 20}},
		{"asleep, with more rows than the limit", func(e *impl.Engine) { e.Cursor, e.Active[2].Sent = 2, 1000 }, []int{2, 5}},
		{"still awake", func(e *impl.Engine) { e.Cursor, e.Active[0].Sent = 2, 2 }, []int{2, 5, 20}},
		{"no limit", func(e *impl.Engine) { e.Cursor, e.Active[1].Sent = 2, 1000 }, []int{2, 5, 20}},
		{"all asleep", func(e *impl.Engine) { e.Active[0].Sent = 3 }, nil},
		{"all have scanned the segment", func(e *impl.Engine) { e.Active[0].Todo = []int{0, 2} }, nil},
		{"no active query", func(e *impl.Engine) { e.Active = nil }, nil},
	} {
		if got := impl.Participants(withPart(c.change)); !slices.Equal(got, c.want) {
			t.Errorf("%s: Participants = %v, want %v", c.why, got, c.want)
		}
	}
	for _, plain := range append(goodEngines(), fullEngine()) {
		for _, e := range cursorsOf(plain) {
			if got := impl.Participants(e); !slices.Equal(got, partsOf(e)) || !impl.IsSet(got) {
				t.Errorf("Participants = %v, want %v, of %s", got, partsOf(e), engineDump(e))
			}
		}
	}
	for _, e := range badEngines() {
		if got := impl.Participants(e); len(got) != 0 {
			t.Errorf("Participants = %v of %s", got, engineDump(e))
		}
	}
}

// TestStepEngine is one step of three queries, one of which ends: each sees a time of its own.
func TestStepEngine(t *testing.T) {
	e := busyEngine()
	e.Cursor = 2
	got, ok := impl.StepEngine(e)
	want := cloneEngine(e)
	// Of the versions, only those are left that are alive or visible at the time 3 or 4.
	want.Store = storeOf(5,
		[]impl.Version{lived(3, -1, 1, 1, 1, 1), lived(2, 5, 2, 2, 1, 1)},
		nil,
		[]impl.Version{lived(5, -1, 2, 2, 2, 2), lived(4, 5, 3, 3, 1, 1)})
	want.Cursor, want.Steps = 0, 10
	want.Active = []impl.Active{
		{Query: query(2, 1, cond(0, 0, 5)), Time: 4, Todo: []int{0, 1}, Age: 1, Sent: 1, Cap: 3, Rows: []impl.Row{row(3, 3, 1, 1)}},
		{Query: query(20, 3, cond(1, 1, 2), cond(2, 0, 9)), Time: 3, Todo: []int{0}, Age: 2, Sent: 1, Cap: 32, Rows: []impl.Row{row(3, 0, 1, 2)}},
	}
	want.Done = append(want.Done, impl.Finished{Query: query(5, 0), Time: 0, Steps: 5, Rows: []impl.Row{row(1, 1, 0, 0), row(7, 9, 9, 9), row(2, 2, 9, 9), row(3, 3, 0, 0)}})
	want.Ledger = append(want.Ledger, chargeOf(2, 4, [3]int{2, 1, 1}, [3]int{5, 0, 2}, [3]int{20, 3, 0}))
	checkEngine(t, "StepEngine", got, ok, want, true)
	if text := impl.FormatCharge(got.Ledger[2]); text != "2 base 4 q2+1 q5+2 q20+0" {
		t.Errorf("the charge is %s", text)
	}
	if impl.WorkDone(got.Ledger[2]) != 7 {
		t.Errorf("the work is %d", impl.WorkDone(got.Ledger[2]))
	}
}

// TestEmptySegment is a step with a participant, but without versions: it is charged all the same.
func TestEmptySegment(t *testing.T) {
	got, ok := impl.StepEngine(busyEngine())
	if !ok || len(got.Ledger) != 3 || impl.FormatCharge(got.Ledger[2]) != "1 base 0 q2+0" {
		t.Fatalf("StepEngine = %v, %s", ok, engineDump(got))
	}
	if want := "{2 1 [{0 0 5}] [0 1 2]} at 4 todo [0 2] age 1 sent 0 cap 3 rows "; activeDump(got.Active[0]) != want {
		t.Errorf("StepEngine leads to %s, want %s", activeDump(got.Active[0]), want)
	}
}

// TestBaseCountsAllVersions: those that nobody sees, and those that the step itself sets free.
func TestBaseCountsAllVersions(t *testing.T) {
	e := engineOn(storeOf(9, []impl.Version{lived(0, 9, 1, 1, 1, 1), lived(2, 3, 2, 2, 2, 2), lived(9, -1, 3, 3, 3, 3)}))
	e.Active = []impl.Active{{Query: query(6, 2), Time: 5, Todo: []int{0}}}
	got, ok := impl.StepEngine(e)
	if !ok || len(got.Ledger) != 1 || impl.FormatCharge(got.Ledger[0]) != "0 base 3 q6+1" || storeDump(got.Store) != "now 9; 1: 3 [3 3 3] 9--1" {
		t.Errorf("StepEngine = %v, %s", ok, engineDump(got))
	}
}

// TestTodoDecides: what a query has scanned already, it does not get again, even if the cursor is there.
func TestTodoDecides(t *testing.T) {
	s, _ := impl.NewStore(ascending(0, 9), 3)
	e := engineOn(s)
	e.Active = []impl.Active{{Query: query(1, 0), Todo: []int{1}}, {Query: query(2, 0), Todo: []int{0, 2}}, {Query: query(3, 1), Todo: []int{0, 1, 2}}}
	for i, want := range []string{"0 base 3 q2+3 q3+3", "1 base 3 q1+3 q3+3", "2 base 3 q2+3 q3+3"} {
		e, _ = impl.StepEngine(e)
		if len(e.Ledger) != i+1 || impl.FormatCharge(e.Ledger[i]) != want {
			t.Fatalf("after the step %d the engine is %s, want the charge %s", i, engineDump(e), want)
		}
	}
	for i, want := range []string{"{1 0 [] [0 1 2]} at 0 steps 2", "{2 0 [] [0 1 2]} at 0 steps 3", "{3 1 [] [0 1 2]} at 0 steps 3"} {
		e.Done[i].Rows = nil
		if got := finishedDump(e.Done[i]); got != want+" rows " {
			t.Errorf("the query that ended as number %d is %s, want %s", i, got, want)
		}
	}
	if e.Cursor != 0 || e.Steps != 3 || len(e.Active) != 0 {
		t.Errorf("the engine is %s", engineDump(e))
	}
}

// TestQueriesEndInOrder: those that end in the same step are moved in the order of their Ids, behind all others.
func TestQueriesEndInOrder(t *testing.T) {
	e := crowdedEngine()
	e.Done = []impl.Finished{{Query: query(23, 1)}, {Query: query(0, 0)}}
	var ended []int
	for range 3 {
		e, _ = impl.StepEngine(e)
	}
	for _, x := range e.Done {
		ended = append(ended, x.Query.Id)
	}
	// The queries 1, 10 and 19 have the segment 0 in Todo, and so on.
	if want := []int{23, 0, 1, 10, 19, 4, 13, 22, 7, 16}; !slices.Equal(ended, want) {
		t.Errorf("the queries %v ended, want %v", ended, want)
	}
}

// TestStepWithoutParticipants: nobody pays, and nobody gets rows, but everything else goes on.
func TestStepWithoutParticipants(t *testing.T) {
	stored := storeOf(5, []impl.Version{lived(0, -1, 1, 1, 1, 1), lived(1, 3, 2, 2, 2, 2), lived(3, 4, 2, 3, 3, 3)}, []impl.Version{lived(4, 5, 4, 4, 4, 4)})
	small := "now 5; 1: 1 [1 1 1] 0--1; 0:"
	asleep, scanned := capped(3, 2, 2), capped(8, 0, 0)
	asleep.Time, asleep.Rows = 2, []impl.Row{row(9, 9, 9, 9)}
	scanned.Todo, scanned.Age = []int{1}, 7
	for _, c := range []struct {
		why    string
		active []impl.Active
		want   []string
		store  string
	}{
		{"no active query", nil, nil, small},
		{"all asleep", []impl.Active{asleep}, []string{"todo [0] age 1 sent 2 cap 2 rows 9:[9 9 9]"}, "now 5; 2: 1 [1 1 1] 0--1 2 [2 2 2] 1-3; 0:"},
		{"all have scanned the segment", []impl.Active{scanned}, []string{"todo [1] age 8 sent 0 cap 0 rows "}, small},
		{"both", []impl.Active{asleep, scanned}, []string{"todo [0] age 1 sent 2 cap 2 rows 9:[9 9 9]", "todo [1] age 8 sent 0 cap 0 rows "}, "now 5; 2: 1 [1 1 1] 0--1 2 [2 2 2] 1-3; 0:"},
	} {
		e := engineOn(stored)
		e.Active, e.Ledger, e.Steps = c.active, goodCharges(), 44
		if len(impl.Participants(e)) != 0 || !impl.IsEngine(e) {
			t.Fatalf("%s: the participants are %v", c.why, impl.Participants(e))
		}
		got, ok := impl.StepEngine(e)
		want, _ := steppedIn(e)
		checkEngine(t, c.why, got, ok, want, true)
		if got.Cursor != 1 || got.Steps != 45 || len(got.Done) != 0 || len(got.Ledger) != len(e.Ledger) || storeDump(got.Store) != c.store {
			t.Errorf("%s: StepEngine leads to %s, want the store %s", c.why, engineDump(got), c.store)
		}
		for i, text := range c.want {
			if full := fmt.Sprintf("{%s} at %d %s", queryDump(c.active[i].Query), c.active[i].Time, text); activeDump(got.Active[i]) != full {
				t.Errorf("%s: StepEngine leads to %s, want %s", c.why, activeDump(got.Active[i]), full)
			}
		}
	}
}

// TestTurns follows a query with a limit of 2 through three segments of three rows: it scans one segment a turn, and is asleep until the next one.
func TestTurns(t *testing.T) {
	s, _ := impl.NewStore(ascending(0, 9), 3)
	e := engineOn(s)
	e.Cursor = 1
	e, _ = impl.AdmitQuery(e, query(4, 0), 2)
	for i, want := range []struct {
		awake  bool
		active string
	}{
		{true, "todo [0 1 2] age 0 sent 0"},
		{false, "todo [0 2] age 1 sent 3"},
		{false, "todo [0 2] age 2 sent 3"},
		{true, "todo [0 2] age 3 sent 0"},
		// It has scanned the segment 1, where the turn begins, and is awake at the next one.
		{true, "todo [0 2] age 4 sent 0"},
		{false, "todo [0] age 5 sent 3"},
		{true, "todo [0] age 6 sent 0"},
		{true, "todo [0] age 7 sent 0"},
		{true, "todo [0] age 8 sent 0"},
	} {
		a := e.Active[0]
		if got := fmt.Sprintf("todo %v age %d sent %d", a.Todo, a.Age, a.Sent); got != want.active || impl.IsAwake(e, 0) != want.awake {
			t.Fatalf("after %d steps the query has %s and is awake: %v, want %s and %v", i, got, impl.IsAwake(e, 0), want.active, want.awake)
		}
		e, _ = impl.StepEngine(e)
	}
	if d, ok := impl.ResultOf(e, 4); !ok || d.Steps != 9 || len(d.Rows) != 9 || len(e.Ledger) != 3 || e.Steps != 9 {
		t.Errorf("the query ended as %s, with %s", finishedDump(d), engineDump(e))
	}
}

// TestRowsBelowTheLimitKeepAwake: a scan that leaves Sent below the limit does not send a query to sleep.
func TestRowsBelowTheLimitKeepAwake(t *testing.T) {
	s, _ := impl.NewStore(ascending(0, 8), 4)
	// So many segments a turn of four steps: all, then one, one, two, two, three, three and all.
	for limit, want := range []int{4, 16, 16, 8, 8, 8, 8, 4, 4} {
		e, _ := impl.AdmitQuery(engineOn(s), query(4, 0), limit)
		e = impl.FinishEngine(e)
		if d, ok := impl.ResultOf(e, 4); !ok || d.Steps != want || len(d.Rows) != 8 {
			t.Errorf("with the limit %d, the query ended as %s, want %d steps", limit, finishedDump(d), want)
		}
	}
}

// TestStepEngineOfEngines holds some steps of each engine against the independent statement, from each cursor.
func TestStepEngineOfEngines(t *testing.T) {
	stepped, empty, ended := 0, 0, 0
	engines := goodEngines()
	for segments := 1; segments <= 8; segments++ {
		engines = append(engines, randomEngine(segments, 20), randomEngine(segments, 60))
	}
	for _, plain := range engines {
		for _, e := range cursorsOf(plain) {
			for range 12 {
				got, ok := impl.StepEngine(e)
				want, wantOk := steppedIn(e)
				if !impl.IsEngine(e) {
					want, wantOk = e, false
				}
				checkEngine(t, "StepEngine of "+engineDump(e), got, ok, want, wantOk)
				if !ok {
					break
				}
				stepped++
				ended += len(got.Done) - len(e.Done)
				if len(got.Ledger) == len(e.Ledger) {
					empty++
				}
				for _, a := range got.Active {
					if before, after := shownAt(e.Store, a.Time), shownAt(got.Store, a.Time); before != after {
						t.Errorf("the time %d showed %s, and shows %s after a step", a.Time, before, after)
					}
				}
				e = got
			}
		}
	}
	if stepped < 1000 || empty < 100 || stepped-empty < 300 || ended < 300 {
		t.Errorf("too little happened: %d steps, %d without participants, %d queries ended", stepped, empty, ended)
	}
}

func TestStepEngineRefuses(t *testing.T) {
	for _, e := range badEngines() {
		got, ok := impl.StepEngine(e)
		checkEngine(t, "StepEngine of an engine that is not valid", got, ok, e, false)
	}
	done := impl.Finished{Query: query(3, 0), Steps: 5}
	for _, c := range []struct {
		why    string
		change func(e *impl.Engine)
	}{
		{"in the last step", func(e *impl.Engine) { e.Steps = 100000 }},
		{"with a full ledger", func(e *impl.Engine) { e.Ledger = slices.Repeat(goodCharges()[:1], 1000) }},
		{"with a full ledger, without participants", func(e *impl.Engine) {
			e.Ledger, e.Active = slices.Repeat(goodCharges()[:1], 1000), nil
		}},
		{"in the last step, without participants", func(e *impl.Engine) { e.Steps, e.Active = 100000, nil }},
		{"with no room for three queries", func(e *impl.Engine) { e.Done = slices.Repeat([]impl.Finished{done}, 998) }},
		{"with no room for a query", func(e *impl.Engine) { e.Done, e.Active = slices.Repeat([]impl.Finished{done}, 1000), e.Active[:1] }},
	} {
		e := withPart(c.change)
		if !impl.IsEngine(e) {
			t.Fatalf("%s: the engine is not valid", c.why)
		}
		got, ok := impl.StepEngine(e)
		checkEngine(t, "StepEngine "+c.why, got, ok, e, false)
		checkEngine(t, "RunEngine "+c.why, impl.RunEngine(e, 3), true, e, true)
		checkEngine(t, "FinishEngine "+c.why, impl.FinishEngine(e), true, e, true)
	}
	got, ok := impl.StepEngine(fullEngine())
	checkEngine(t, "StepEngine of a full engine", got, ok, fullEngine(), false)
}

// TestStepEngineAtLimits makes the last step that each limit permits.
func TestStepEngineAtLimits(t *testing.T) {
	done := impl.Finished{Query: query(3, 0), Steps: 5}
	for _, c := range []struct {
		why    string
		change func(e *impl.Engine)
		again  bool
	}{
		{"the last step but one", func(e *impl.Engine) { e.Steps = 99998 }, true},
		{"the last step", func(e *impl.Engine) { e.Steps = 99999 }, false},
		{"room for two charges", func(e *impl.Engine) { e.Ledger = slices.Repeat(goodCharges()[:1], 998) }, true},
		{"room for a charge", func(e *impl.Engine) { e.Ledger = slices.Repeat(goodCharges()[:1], 999) }, false},
		{"room for a charge, without participants", func(e *impl.Engine) {
			e.Ledger, e.Active = slices.Repeat(goodCharges()[:1], 999), nil
		}, true},
		{"room for all queries", func(e *impl.Engine) { e.Done = slices.Repeat([]impl.Finished{done}, 997) }, true},
		{"no room for queries, without any", func(e *impl.Engine) { e.Done, e.Active = slices.Repeat([]impl.Finished{done}, 1000), nil }, true},
		{"room for one query that ends", func(e *impl.Engine) {
			e.Done, e.Active, e.Cursor = slices.Repeat([]impl.Finished{done}, 999), e.Active[1:2], 2
		}, true},
	} {
		e := withPart(c.change)
		got, ok := impl.StepEngine(e)
		want, _ := steppedIn(e)
		checkEngine(t, c.why, got, ok, want, true)
		if !impl.IsEngine(got) {
			t.Errorf("%s: StepEngine leads to an engine that is not valid", c.why)
		}
		if _, ok := impl.StepEngine(got); ok != c.again {
			t.Errorf("%s: the step after it is made: %v", c.why, ok)
		}
	}
}

// TestStepsBeyondLimits is about steps that push a query beyond a limit of a valid engine: they are made, and no other one follows.
func TestStepsBeyondLimits(t *testing.T) {
	s, _ := impl.NewStore(ascending(0, 6), 2)
	full := func(a impl.Active) impl.Engine {
		e := engineOn(s)
		a.Query = query(5, 2)
		e.Active = []impl.Active{a}
		return e
	}
	for _, c := range []struct {
		why     string
		e       impl.Engine
		isValid bool
	}{
		{"1000 rows", full(impl.Active{Todo: []int{0, 1}, Rows: manyRows(997)}), true},
		{"1001 rows", full(impl.Active{Todo: []int{0, 1}, Rows: manyRows(998)}), false},
		{"1001 rows in the end", full(impl.Active{Todo: []int{0}, Rows: manyRows(998)}), false},
		{"1003 rows", full(impl.Active{Todo: []int{0, 1}, Rows: manyRows(1000)}), false},
		{"no other rows", full(impl.Active{Todo: []int{1}, Rows: manyRows(1000)}), true},
		{"Sent 1000", full(impl.Active{Todo: []int{0, 1}, Sent: 997}), true},
		{"Sent 1001", full(impl.Active{Todo: []int{0, 1}, Sent: 998}), false},
		{"Sent 1001, and then 0", full(impl.Active{Todo: []int{0, 1}, Sent: 998, Age: 1}), true},
		{"Sent 1001 in the end", full(impl.Active{Todo: []int{0}, Sent: 998}), true},
		{"Age 100000", full(impl.Active{Todo: []int{1}, Age: 99999}), true},
		{"Age 100001", full(impl.Active{Todo: []int{1}, Age: 100000}), false},
		{"Age 100001 in the end", full(impl.Active{Todo: []int{0}, Age: 100000}), false},
	} {
		if !impl.IsEngine(c.e) {
			t.Fatalf("%s: the engine is not valid", c.why)
		}
		got, ok := impl.StepEngine(c.e)
		want, _ := steppedIn(c.e)
		checkEngine(t, c.why, got, ok, want, true)
		if impl.IsEngine(got) != c.isValid {
			t.Errorf("%s: IsEngine = %v after the step", c.why, !c.isValid)
		}
		if c.isValid {
			continue
		}
		again, ok := impl.StepEngine(got)
		checkEngine(t, c.why+", second step", again, ok, got, false)
		checkEngine(t, c.why+", RunEngine", impl.RunEngine(c.e, 5), true, got, true)
		checkEngine(t, c.why+", FinishEngine", impl.FinishEngine(c.e), true, got, true)
		if d, ok := impl.ResultOf(got, 5); ok || finishedDump(d) != finishedDump(impl.Finished{}) {
			t.Errorf("%s: ResultOf = %s", c.why, finishedDump(d))
		}
	}
}

// TestOrderDoesNotShow makes the same steps with each order.
func TestOrderDoesNotShow(t *testing.T) {
	for _, e := range append(goodEngines(), randomEngine(5, 60)) {
		want := steppedTimes(e, 4)
		for _, order := range probeOrders {
			x, ok := impl.SetOrder(e, order)
			if !ok {
				t.Fatal(order)
			}
			got := impl.RunEngine(x, 4)
			if !slices.Equal(got.Order, order) {
				t.Errorf("a step changed the order %v to %v", order, got.Order)
			}
			got.Order = want.Order
			checkEngine(t, fmt.Sprint("RunEngine with the order ", order), got, true, want, true)
		}
	}
}

func TestRunEngine(t *testing.T) {
	engines := []impl.Engine{busyEngine(), crowdedEngine(), engineOn(smallStore()), engineOn(storeOf(0, nil)), randomEngine(8, 40)}
	for _, e := range engines {
		for steps := -3; steps <= 30; steps++ {
			checkEngine(t, fmt.Sprint("RunEngine of ", steps), impl.RunEngine(e, steps), true, steppedTimes(e, max(steps, 0)), true)
		}
		for _, steps := range []int{-1 << 32, math.MinInt} {
			checkEngine(t, fmt.Sprint("RunEngine of ", steps), impl.RunEngine(e, steps), true, e, true)
		}
		most := steppedTimes(e, 200)
		if most.Steps != e.Steps+200 || impl.RunEngine(e, 199).Steps != e.Steps+199 {
			t.Errorf("200 steps lead from %d to %d", e.Steps, most.Steps)
		}
		for _, steps := range []int{200, 201, 202, 1000, 1 << 32, math.MaxInt} {
			checkEngine(t, fmt.Sprint("RunEngine of ", steps), impl.RunEngine(e, steps), true, most, true)
		}
	}
	for _, e := range badEngines() {
		checkEngine(t, "RunEngine of an engine that is not valid", impl.RunEngine(e, 2), true, e, true)
	}
	// The last steps that there are.
	e := busyEngine()
	e.Steps = 99990
	checkEngine(t, "RunEngine up to the last step", impl.RunEngine(e, 50), true, steppedTimes(e, 10), true)
}

func TestFinishEngine(t *testing.T) {
	for _, plain := range append(goodEngines(), randomEngine(8, 40)) {
		for _, e := range cursorsOf(plain) {
			want := e
			for impl.IsEngine(want) && len(want.Active) > 0 {
				next, ok := steppedIn(want)
				if want = next; !ok {
					break
				}
			}
			checkEngine(t, "FinishEngine", impl.FinishEngine(e), true, want, true)
		}
	}
	// Without active queries, there is no step.
	for _, e := range []impl.Engine{engineOn(smallStore()), withPart(func(e *impl.Engine) { e.Active = nil })} {
		checkEngine(t, "FinishEngine without active queries", impl.FinishEngine(e), true, e, true)
	}
	// What a step leaves behind is not touched again.
	once := impl.FinishEngine(busyEngine())
	checkEngine(t, "FinishEngine a second time", impl.FinishEngine(once), true, once, true)
	e := busyEngine()
	e.Steps = 99999
	if got := impl.FinishEngine(e); got.Steps != 100000 || len(got.Active) == 0 {
		t.Errorf("FinishEngine in the last step leads to %s", engineDump(got))
	}
	for _, e := range badEngines() {
		checkEngine(t, "FinishEngine of an engine that is not valid", impl.FinishEngine(e), true, e, true)
	}
}

func TestResultOf(t *testing.T) {
	e := busyEngine()
	e.Done = append(e.Done, impl.Finished{Query: query(2, 3), Time: 5, Steps: 1, Rows: manyRows(2)}, impl.Finished{Query: query(0, 1), Time: 2, Steps: 4})
	for _, c := range []struct {
		id, at int
	}{
		{20, 0}, {2, 2}, {0, 3},
	} {
		if got, ok := impl.ResultOf(e, c.id); !ok || finishedDump(got) != finishedDump(e.Done[c.at]) {
			t.Errorf("ResultOf of %d = %s, %v, want %s", c.id, finishedDump(got), ok, finishedDump(e.Done[c.at]))
		}
	}
	checkNone := func(e impl.Engine, id int) {
		t.Helper()
		if got, ok := impl.ResultOf(e, id); ok || finishedDump(got) != finishedDump(impl.Finished{}) {
			t.Errorf("ResultOf of %d = %s, %v", id, finishedDump(got), ok)
		}
	}
	// 5 is active, and not done.
	for _, id := range append(numbersAround(23), 1, 3, 5, 19, 21, 1<<32+2) {
		checkNone(e, id)
	}
	checkNone(engineOn(smallStore()), 0)
	for _, e := range badEngines() {
		for _, id := range []int{2, 20, 0} {
			checkNone(e, id)
		}
	}
	full := fullEngine()
	for id := range 24 {
		at := 999
		for full.Done[at].Query.Id != id {
			at--
		}
		if got, ok := impl.ResultOf(full, id); !ok || finishedDump(got) != finishedDump(full.Done[at]) {
			t.Errorf("ResultOf of %d is not the element %d", id, at)
		}
	}
}

// random returns the next of a row of numbers that look like chance, from 0 to below.
type random int

func (r *random) upTo(below int) int {
	*r = (*r*1103515245 + 12345) % (1 << 31)
	return int(*r) >> 8 % below
}

// randomUpdate returns an update of one of the first rows.
func randomUpdate(r *random, ids int) impl.Update {
	id, value := r.upTo(ids), r.upTo(100)
	switch r.upTo(5) {
	case 0, 1:
		return insertOf(row(id, value, r.upTo(100), r.upTo(3)))
	case 2:
		return deleteOf(id)
	}
	return setTo(id, r.upTo(3), value)
}

// randomQuery returns a query with up to three conditions, some of which are narrow.
func randomQuery(r *random) impl.Query {
	q := query(r.upTo(24), r.upTo(4))
	for field := range 3 {
		if r.upTo(3) == 0 {
			low := r.upTo(60)
			q.Conds = append(q.Conds, cond(field, low, min(99, low+r.upTo(90))))
		}
	}
	return q
}

// randomEngine returns an engine with this number of segments after so many events.
func randomEngine(segments, events int) impl.Engine {
	r := random(segments*1000 + events)
	s, _ := impl.NewStore(ascending(0, 2*segments), segments)
	e := engineOn(s)
	for range events {
		switch r.upTo(4) {
		case 0, 1:
			e, _ = impl.AdmitQuery(e, randomQuery(&r), r.upTo(2)*r.upTo(6))
		case 2:
			e, _ = impl.UpdateEngine(e, randomUpdate(&r, 3*segments))
		case 3:
			e, _ = steppedIn(e)
		}
	}
	return e
}

// promise is what a query is to get and until when: it is known from its admission on.
type promise struct {
	answer string
	alone  []impl.Row
	time   int
	until  int
	limit  int
}

// promiseAt answers a query alone, and lets an engine with the store answer it alone.
func promiseAt(t *testing.T, e impl.Engine, q impl.Query, limit int) promise {
	t.Helper()
	single := engineOn(e.Store)
	single.Cursor = e.Cursor
	single, _ = impl.AdmitQuery(single, q, limit)
	d, ok := impl.ResultOf(impl.FinishEngine(single), q.Id)
	answer := rowsText(impl.AnswerAlone(q, rowsOf(e.Store, e.Store.Now)))
	if !ok || rowsText(impl.SortRows(d.Rows)) != answer {
		t.Fatalf("alone, the query %s got %s, want %s", queryDump(q), rowsText(d.Rows), answer)
	}
	n := len(e.Store.Segments)
	if limit > 0 {
		n *= n
	}
	return promise{answer: answer, alone: d.Rows, time: e.Store.Now, until: n, limit: limit}
}

// checkKept holds a query that ended against its promise.
func checkKept(t *testing.T, p promise, d impl.Finished) {
	t.Helper()
	if d.Time != p.time || d.Steps < 1 || d.Steps > p.until {
		t.Fatalf("the query %s ended as %s, want the time %d and at most %d steps", queryDump(d.Query), finishedDump(d), p.time, p.until)
	}
	if rowsText(impl.SortRows(d.Rows)) != p.answer {
		t.Fatalf("the query %s got %s, want %s", queryDump(d.Query), rowsText(d.Rows), p.answer)
	}
	if !impl.EqualRows(d.Rows, p.alone) {
		t.Fatalf("the query %s got %s, but alone %s", queryDump(d.Query), rowsText(d.Rows), rowsText(p.alone))
	}
}

// TestQueriesGetTheirAnswers is guarantee 5: each query gets exactly the rows that it would get alone in the state at its admission, each once, whatever runs beside it.
func TestQueriesGetTheirAnswers(t *testing.T) {
	for segments := 1; segments <= 8; segments++ {
		r := random(31 * segments)
		s, _ := impl.NewStore(ascending(0, segments), segments)
		e, _ := impl.NewEngine(s)
		promises := map[int]promise{}
		kept, counts := map[int]int{}, map[string]int{}
		for range 1000 {
			model, what, ok, wantOk := e, "", true, true
			before := len(e.Done)
			switch r.upTo(8) {
			case 0, 1:
				what = "admit"
				q, limit := randomQuery(&r), r.upTo(2)*r.upTo(8)
				if model, wantOk = admittedTo(e, q, limit); wantOk {
					promises[q.Id] = promiseAt(t, e, q, limit)
				}
				e, ok = impl.AdmitQuery(e, q, limit)
			case 2:
				what = "cancel"
				ids := append(idsOf(e), r.upTo(24))
				id := ids[r.upTo(len(ids))]
				model, wantOk = cancelledIn(e, id)
				e, ok = impl.CancelQuery(e, id)
			case 3, 4:
				what = "update"
				u := randomUpdate(&r, 3*segments)
				model, wantOk = engineUpdatedBy(e, u)
				e, ok = impl.UpdateEngine(e, u)
			case 5:
				what = "order"
				model = cloneEngine(e)
				model.Order = probeOrders[r.upTo(6)]
				e, ok = impl.SetOrder(e, model.Order)
			default:
				what = "step"
				model, wantOk = steppedIn(e)
				e, ok = impl.StepEngine(e)
			}
			if ok != wantOk || !impl.EqualEngines(e, model) {
				checkEngine(t, what, e, ok, model, wantOk)
			}
			if ok {
				counts[what]++
			}
			for _, d := range e.Done[before:] {
				checkKept(t, promises[d.Query.Id], d)
				kept[min(promises[d.Query.Id].limit, 1)]++
			}
			if !impl.IsEngine(e) {
				t.Fatalf("after %s, the engine is %s", what, engineDump(e))
			}
		}
		before := len(e.Done)
		e = impl.FinishEngine(e)
		for _, d := range e.Done[before:] {
			checkKept(t, promises[d.Query.Id], d)
		}
		if len(e.Active) != 0 || impl.CountVersions(e.Store) != len(rowsOf(e.Store, e.Store.Now)) {
			t.Errorf("after all queries ended, the engine is %s", engineDump(e))
		}
		checkLedger(t, e)
		if kept[0] < 20 || kept[1] < 20 || counts["update"] < 100 || counts["cancel"] < 10 {
			t.Errorf("with %d segments, too little happened: %v, ended %v", segments, counts, kept)
		}
	}
}

// checkLedger holds the charges of an engine against guarantee 7: they add up, and no coalition pays more than it costs alone.
func checkLedger(t *testing.T, e impl.Engine) {
	t.Helper()
	total := 0
	for _, x := range e.Ledger {
		if !isChargeOf(x) || impl.WorkDone(x) > 4*(1+len(x.Ids)) {
			t.Fatalf("the ledger has the charge %s", chargeDump(x))
		}
		total += workIn(x)
	}
	if impl.TotalWork(e.Ledger) != total || total == 0 {
		t.Errorf("TotalWork = %d, want %d", impl.TotalWork(e.Ledger), total)
	}
	for _, group := range groupsOfTenants() {
		paid := 0
		for _, tenant := range group {
			paid += impl.TenantCharge(e.Ledger, tenant)
		}
		if cost := impl.CoalitionCost(e.Ledger, group); paid > cost || len(group) == 4 && paid != total {
			t.Errorf("the tenants %v pay %d of %d, but cost %d alone", group, paid, total, cost)
		}
	}
}

// TestMovedRows is about a row that an update moves to another segment: it is neither got twice nor missed.
func TestMovedRows(t *testing.T) {
	for cursor := range 2 {
		e := engineOn(storeOf(0, []impl.Version{living(0, 1), living(0, 2)}, []impl.Version{living(0, 3), living(0, 4), living(0, 5), living(0, 6)}))
		e.Cursor = cursor
		e, _ = impl.AdmitQuery(e, query(7, 0), 0)
		e, _ = impl.StepEngine(e)
		// From the segment 1 to the segment 0: once after this was scanned, and once before.
		for _, id := range []int{3, 6} {
			e, _ = impl.UpdateEngine(e, setTo(id, 2, 50))
		}
		e, _ = impl.UpdateEngine(e, deleteOf(1))
		e, _ = impl.StepEngine(e)
		d, ok := impl.ResultOf(e, 7)
		if !ok || rowsText(impl.SortRows(d.Rows)) != "1:[1 1 0] 2:[2 2 0] 3:[3 3 0] 4:[4 4 0] 5:[5 5 0] 6:[6 6 0]" {
			t.Errorf("from the segment %d on, the query got %s", cursor, rowsText(d.Rows))
		}
		if storeDump(e.Store) != "now 3; 3: 2 [2 2 0] 0--1 3 [3 3 50] 1--1 6 [6 6 50] 2--1; 2: 4 [4 4 0] 0--1 5 [5 5 0] 0--1" {
			t.Errorf("the store is %s", storeDump(e.Store))
		}
	}
}

// TestSameIdAgain: a query that ended and one with its Id after it have a result each, and the last one counts.
func TestSameIdAgain(t *testing.T) {
	e := engineOn(storeOf(0, []impl.Version{living(0, 1)}))
	for i := range 3 {
		e, _ = impl.AdmitQuery(e, query(7, i), 0)
		e = impl.RunEngine(e, 1)
		d, ok := impl.ResultOf(e, 7)
		if !ok || d.Query.Tenant != i || d.Time != i || len(e.Done) != i+1 || d.Rows[0].Values[2] != 10*i {
			t.Errorf("ResultOf = %s, %v", finishedDump(d), ok)
		}
		e, _ = impl.UpdateEngine(e, setTo(1, 2, 10*(i+1)))
	}
}

// TestStepsLeaveArgumentsAlone looks at the arguments, their unused capacity included, and at what they have in common with the results.
func TestStepsLeaveArgumentsAlone(t *testing.T) {
	broken, beyond := busyEngine(), busyEngine()
	broken.Ledger[0].Base = 9
	beyond.Active[1].Rows = manyRows(999)
	engines := []impl.Engine{engineOn(smallStore()), broken, {}, randomEngine(3, 50)}
	for _, plain := range append(engines, append(cursorsOf(busyEngine()), cursorsOf(beyond)...)...) {
		e := roomy(plain)
		before := wholeText(e)
		results := []impl.Engine{impl.RunEngine(e, -1), impl.RunEngine(e, 0), impl.RunEngine(e, 1), impl.RunEngine(e, 5), impl.FinishEngine(e)}
		stepped, _ := impl.StepEngine(e)
		results = append(results, stepped)
		impl.IsAwake(e, 1)
		ids, again := impl.Participants(e), impl.Participants(e)
		var ended []impl.Finished
		for _, id := range []int{2, 20, 21} {
			d, _ := impl.ResultOf(e, id)
			ended = append(ended, d)
		}
		if wholeText(e) != before {
			t.Fatalf("an argument changed: %s, was %s", wholeText(e), before)
		}
		for i, x := range results {
			if sharesMemory(x, e) {
				t.Errorf("the result %d shares memory with an argument, or with itself: %s", i, engineDump(x))
			}
		}
		if sharesMemory(ids, again, ended, e) {
			t.Errorf("the results %v and %v share memory, with each other or with an argument", ids, ended)
		}
	}
}

// TestSteppedEnginesShareNothing makes an engine from lists that are one and the same, in which all queries get the same rows, and looks at the memory of the results.
func TestSteppedEnginesShareNothing(t *testing.T) {
	values := []int{0, 1, 2}
	rows := []impl.Row{{Id: 1, Values: values}, {Id: 2, Values: values}}
	versions := []impl.Version{{Id: 1, Values: values, Died: -1}, {Id: 2, Values: values, Died: -1}, {Id: 3, Values: values, Died: -1}}
	e := impl.Engine{Store: storeOf(0, versions[:2], versions[2:], nil), Order: values}
	for id := range 8 {
		a := impl.Active{Query: impl.Query{Id: id, Out: values}, Todo: values, Rows: rows, Cap: id % 3, Age: id}
		e.Active = append(e.Active, a)
		e.Done = append(e.Done, impl.Finished{Query: impl.Query{Id: id, Out: values}, Rows: rows})
		e.Ledger = append(e.Ledger, impl.Charge{Base: 2, Ids: values, Tenants: values, Rows: values})
	}
	if !impl.IsEngine(e) {
		t.Fatalf("IsEngine = false of %s", engineDump(e))
	}
	for steps := range 12 {
		x := impl.RunEngine(e, steps)
		y, ok := impl.StepEngine(x)
		if !ok || sharesMemory(x, y, values) {
			t.Errorf("after %d steps, the engine shares memory: %s", steps, engineDump(x))
		}
	}
	x := impl.FinishEngine(e)
	d, ok := impl.ResultOf(x, 7)
	shared, _ := impl.ResultOf(e, 7)
	if !ok || sharesMemory(x, d) || sharesMemory(x, values) || sharesMemory(shared) || sharesMemory(shared, values) {
		t.Errorf("in the end, the engine shares memory: %s", engineDump(x))
	}
}
