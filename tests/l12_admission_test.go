package tests

import (
	"fmt"
	"math"
	"slices"
	"testing"

	"loop.example/g01986/impl"
)

// stepBounds are the bounds of steps with so many active queries.
var stepBounds = []int{0, 8, 12, 16, 20, 24, 28, 32, 36}

// boundOf is an independent statement of StepBound.
func boundOf(active int) int {
	if active < 0 || active >= len(stepBounds) {
		return 0
	}
	return stepBounds[active]
}

// promisedOf is an independent statement of PromisedSteps for valid engines.
func promisedOf(e impl.Engine, limit int) int {
	if limit < 0 || limit > 32 {
		return 0
	}
	sum := 0
	for range e.Store.Segments {
		if limit == 0 {
			sum++
		} else {
			sum += len(e.Store.Segments)
		}
	}
	return sum
}

// canAdmitTo is an independent statement of CanAdmit for valid engines.
func canAdmitTo(e impl.Engine, q impl.Query, limit, budget int) bool {
	x, ok := admittedTo(e, q, limit)
	return ok && stepBounds[len(x.Active)] <= budget
}

// isKept is an independent statement of IsPromiseKept for valid engines.
func isKept(e impl.Engine) bool {
	late := slices.ContainsFunc(e.Done, func(d impl.Finished) bool { return d.Steps > promisedOf(e, 1) })
	old := slices.ContainsFunc(e.Active, func(a impl.Active) bool { return a.Age >= promisedOf(e, a.Cap) })
	return !late && !old
}

// evenEngine returns an engine with so many segments, each with as many rows as there is room for.
func evenEngine(segments int) impl.Engine {
	s, _ := impl.NewStore(ascending(0, 4*segments), segments)
	return engineOn(s)
}

// sharingEngine returns an engine with so many active queries, all of which match every row.
func sharingEngine(segments, active int) impl.Engine {
	e := evenEngine(segments)
	for i := range active {
		e, _ = impl.AdmitQuery(e, query(3*i, i%4), 0)
	}
	return e
}

// agedEngine is an engine with four segments, with an active query of an age and one that ended.
func agedEngine(limit, age, steps int) impl.Engine {
	e := evenEngine(4)
	e.Active = []impl.Active{{Query: query(1, 0), Todo: []int{2}}, {Query: query(5, 1), Todo: []int{0, 3}, Cap: limit, Age: age}, {Query: query(9, 1), Todo: []int{3}, Cap: 7}}
	e.Done = []impl.Finished{{Query: query(1, 0), Steps: 4}, {Query: query(5, 0), Steps: steps}, {Query: query(6, 0)}}
	return e
}

func TestStepBound(t *testing.T) {
	for active, want := range map[int]int{1: 8, 2: 12, 3: 16, 4: 20, 5: 24, 6: 28, 7: 32, 8: 36, 0: 0, 9: 0, 10: 0, 24: 0, 1000: 0} {
		if got := impl.StepBound(active); got != want {
			t.Errorf("StepBound(%d) = %d, want %d", active, got, want)
		}
	}
	for _, active := range append(numbersAround(8), 1<<62, 1<<62-1, 1<<61-1, math.MinInt+1, math.MaxInt-1) {
		if got := impl.StepBound(active); got != 0 {
			t.Errorf("StepBound(%d) = %d", active, got)
		}
	}
}

// TestStepsReachTheirBound is about steps in which each active query gets every row of a full segment: no smaller bound would do.
func TestStepsReachTheirBound(t *testing.T) {
	for segments := 1; segments <= 8; segments++ {
		for active := 1; active <= 8; active++ {
			e, ok := impl.StepEngine(sharingEngine(segments, active))
			if !ok || len(e.Ledger) != 1 || impl.WorkDone(e.Ledger[0]) != stepBounds[active] || impl.WorstStep(e.Ledger) != impl.StepBound(active) {
				t.Errorf("a step of %d queries with %d segments leads to %s", active, segments, engineDump(e))
			}
		}
	}
}

func TestPromisedSteps(t *testing.T) {
	for i, squared := range []int{1, 4, 9, 16, 25, 36, 49, 64} {
		e := evenEngine(i + 1)
		if got := impl.PromisedSteps(e, 0); got != i+1 {
			t.Errorf("PromisedSteps with %d segments and no limit = %d", i+1, got)
		}
		for limit := 1; limit <= 32; limit++ {
			if got := impl.PromisedSteps(e, limit); got != squared {
				t.Errorf("PromisedSteps with %d segments and the limit %d = %d, want %d", i+1, limit, got, squared)
			}
		}
	}
	limits := append(numbersAround(32), 0, 1, 2, 31, 32)
	for _, e := range append(goodEngines(), fullEngine()) {
		for _, limit := range limits {
			if got := impl.PromisedSteps(e, limit); got != promisedOf(e, limit) {
				t.Errorf("PromisedSteps with the limit %d = %d, want %d, of %s", limit, got, promisedOf(e, limit), engineDump(e))
			}
		}
	}
}

func TestPromisedStepsRefuses(t *testing.T) {
	for _, e := range []impl.Engine{busyEngine(), evenEngine(8)} {
		for _, limit := range append(numbersAround(32), 64, 100) {
			if got := impl.PromisedSteps(e, limit); got != 0 {
				t.Errorf("PromisedSteps with the limit %d = %d", limit, got)
			}
		}
	}
	for _, e := range badEngines() {
		for _, limit := range []int{-1, 0, 1, 32, 33} {
			if got := impl.PromisedSteps(e, limit); got != 0 {
				t.Errorf("PromisedSteps with the limit %d = %d of %s", limit, got, engineDump(e))
			}
		}
	}
}

// TestPromisesAreUsedUp is about queries that need every step that was promised: no smaller promise would do.
func TestPromisesAreUsedUp(t *testing.T) {
	for segments := 1; segments <= 8; segments++ {
		for _, e := range cursorsOf(evenEngine(segments)) {
			for limit := range 33 {
				x, ok := impl.AdmitQuery(e, query(4, 0), limit)
				promised := impl.PromisedSteps(x, limit)
				if !ok || !impl.IsPromiseKept(x) {
					t.Fatalf("with the limit %d, the engine is %s", limit, engineDump(x))
				}
				x = impl.FinishEngine(x)
				d, ok := impl.ResultOf(x, 4)
				if !ok || d.Steps > promised || len(d.Rows) != 4*segments || !impl.IsPromiseKept(x) {
					t.Errorf("with the limit %d, the query ended as %s, promised were %d steps", limit, finishedDump(d), promised)
				}
				// Four rows send a query with a limit of at most four to sleep.
				if limit <= 4 && d.Steps != promised {
					t.Errorf("with the limit %d, the query ended after %d steps, want %d", limit, d.Steps, promised)
				}
			}
		}
	}
}

// TestBudgetReachedExactly is the edge case of a budget that is equal to the bound.
func TestBudgetReachedExactly(t *testing.T) {
	for active := range 8 {
		e := sharingEngine(3, active)
		q := query(23, 2, cond(0, 50, 50))
		bound := stepBounds[active+1]
		for _, limit := range []int{0, 1, 4, 32} {
			for budget := -2; budget <= 60; budget++ {
				if got := impl.CanAdmit(e, q, limit, budget); got != (budget >= bound) {
					t.Errorf("CanAdmit with %d active queries, the limit %d and the budget %d = %v", active, limit, budget, got)
				}
			}
			for _, budget := range []int{math.MaxInt, math.MaxInt - 1, 1 << 32} {
				if !impl.CanAdmit(e, q, limit, budget) {
					t.Errorf("CanAdmit with the budget %d = false", budget)
				}
			}
			for _, budget := range []int{math.MinInt, math.MinInt + bound, -1 << 32, -bound} {
				if impl.CanAdmit(e, q, limit, budget) {
					t.Errorf("CanAdmit with the budget %d = true", budget)
				}
			}
		}
	}
}

// TestBudgetCountsActiveQueries is about engines in which few queries, or none, take part in the next step: the bound is about those that are active.
func TestBudgetCountsActiveQueries(t *testing.T) {
	for _, e := range []impl.Engine{
		busyEngine(),
		withPart(func(e *impl.Engine) { e.Active[0].Sent = 3 }),
		withPart(func(e *impl.Engine) { e.Store.Segments = [][]impl.Version{nil, nil, nil} }),
		withPart(func(e *impl.Engine) { e.Done, e.Ledger = nil, nil }),
		withPart(func(e *impl.Engine) { e.Steps, e.Active[0].Age = 100000, 100000 }),
	} {
		if impl.CanAdmit(e, query(7, 2), 0, 19) || !impl.CanAdmit(e, query(7, 2), 0, 20) {
			t.Errorf("CanAdmit with 3 active queries needs another budget than 20 in %s", engineDump(e))
		}
	}
}

func TestCanAdmitOfEngines(t *testing.T) {
	admitted, refused := 0, 0
	for i, e := range append(goodEngines(), fullEngine()) {
		for _, q := range []impl.Query{query(0, 0), query(1, 3, cond(0, 1, 2)), query(i%24, i%4), query(23, 1), query(22, 0), {}} {
			for _, limit := range []int{-1, 0, 1, 31, 32, 33} {
				for _, budget := range []int{math.MinInt, -1, 0, 7, 8, 9, 11, 12, 19, 20, 21, 35, 36, 37, math.MaxInt} {
					got, want := impl.CanAdmit(e, q, limit, budget), canAdmitTo(e, q, limit, budget)
					if got != want {
						t.Errorf("CanAdmit of %s with the limit %d and the budget %d = %v, want %v, in %s", queryDump(q), limit, budget, got, want, engineDump(e))
					}
					if got {
						admitted++
					} else {
						refused++
					}
				}
				// With a budget that is large enough for all, it is the same as AdmitQuery.
				if _, ok := impl.AdmitQuery(e, q, limit); ok != impl.CanAdmit(e, q, limit, 36) {
					t.Errorf("CanAdmit of %s with the limit %d and the budget 36 = %v", queryDump(q), limit, !ok)
				}
			}
		}
	}
	if admitted < 1000 || refused < 1000 {
		t.Errorf("%d queries were admitted, and %d refused", admitted, refused)
	}
}

func TestCanAdmitRefuses(t *testing.T) {
	refuses := func(e impl.Engine, q impl.Query, limit int) {
		t.Helper()
		for _, budget := range []int{0, 8, 20, 36, 40, math.MaxInt} {
			if impl.CanAdmit(e, q, limit, budget) {
				t.Errorf("CanAdmit of %s with the limit %d and the budget %d = true in %s", queryDump(q), limit, budget, engineDump(e))
			}
		}
	}
	for _, e := range []impl.Engine{busyEngine(), engineOn(smallStore())} {
		for _, q := range badQueries() {
			refuses(e, q, 0)
		}
		for _, limit := range numbersAround(32) {
			refuses(e, query(7, 0), limit)
		}
	}
	for _, id := range []int{2, 5, 20} {
		refuses(busyEngine(), query(id, 0), 0)
		refuses(busyEngine(), query(id, 3, cond(0, 0, 1)), 32)
	}
	refuses(fullEngine(), query(0, 0), 0)
	refuses(crowdedEngine(), query(0, 0), 0)
	refuses(crowdedEngine(), query(22, 0), 32)
	for _, e := range badEngines() {
		refuses(e, query(7, 0), 0)
	}
}

func TestWorstStep(t *testing.T) {
	small, large, bad := chargeOf(1, 1, [3]int{3, 0, 0}), chargeOf(0, 4, [3]int{2, 1, 3}, [3]int{3, 0, 4}), chargeOf(0, 4, [3]int{2, 1, 5})
	empty := chargeOf(7, 0, [3]int{0, 0, 0})
	for _, c := range []struct {
		why  string
		l    []impl.Charge
		want int
	}{
		{"no charges", nil, 0},
		{"an empty list", []impl.Charge{}, 0},
		{"one", []impl.Charge{small}, 1},
		{"one without work", []impl.Charge{empty}, 0},
		{"the greatest one first", []impl.Charge{large, small, empty}, 11},
		{"the greatest one between others", []impl.Charge{small, large, small}, 11},
		{"the greatest one at the end", []impl.Charge{empty, small, large}, 11},
		{"the same one twice", []impl.Charge{large, large}, 11},
		{"one that is not valid", []impl.Charge{bad}, 0},
		{"only some that are not valid", badCharges(), 0},
		{"one that is not valid before another one", []impl.Charge{bad, small}, 1},
		{"one that is not valid behind another one", []impl.Charge{small, bad}, 1},
		{"the greatest one that there is", goodCharges(), 36},
		{"much that is not valid", slices.Concat(badCharges(), []impl.Charge{large}, badCharges()), 11},
		{"more than an engine may have", slices.Concat(slices.Repeat([]impl.Charge{small}, 1500), []impl.Charge{large}), 11},
	} {
		if got := impl.WorstStep(c.l); got != c.want {
			t.Errorf("%s: WorstStep = %d, want %d", c.why, got, c.want)
		}
	}
}

// TestWorstStepOfLists takes all charges, some of which are not valid, in all parts of a list.
func TestWorstStepOfLists(t *testing.T) {
	l := slices.Concat(goodCharges(), badCharges()[:20], goodCharges()[2:5])
	for from := range l {
		worst := 0
		for to, x := range l[from:] {
			if got := impl.WorstStep(l[from : from+to]); got != worst {
				t.Errorf("WorstStep from %d to %d = %d, want %d", from, from+to, got, worst)
			}
			worst = max(worst, workIn(x))
		}
	}
}

func TestIsPromiseKept(t *testing.T) {
	for _, c := range []struct {
		limit, age, steps int
		want              bool
	}{
		{0, 0, 0, true},
		// Without a limit, four steps are promised, and with one, sixteen.
		{0, 3, 4, true}, {0, 4, 4, false}, {0, 5, 4, false}, {0, 15, 4, false}, {0, 100000, 4, false},
		{1, 4, 4, true}, {1, 15, 4, true}, {1, 16, 4, false}, {1, 17, 4, false}, {1, 100000, 4, false},
		{32, 15, 4, true}, {32, 16, 4, false},
		{0, 0, 5, true}, {0, 0, 15, true}, {0, 0, 16, true}, {0, 0, 17, false}, {0, 0, 100000, false},
		{1, 15, 16, true}, {1, 16, 16, false}, {1, 15, 17, false}, {1, 16, 17, false},
	} {
		e := agedEngine(c.limit, c.age, c.steps)
		if got := impl.IsPromiseKept(e); got != c.want || isKept(e) != c.want || !impl.IsEngine(e) {
			t.Errorf("IsPromiseKept with the limit %d, the age %d and %d steps = %v", c.limit, c.age, c.steps, got)
		}
	}
}

// TestIsPromiseKeptAtEachPlace lets one query at a time be too late, with each number of segments.
func TestIsPromiseKeptAtEachPlace(t *testing.T) {
	for segments := 1; segments <= 8; segments++ {
		e := evenEngine(segments)
		for i := range 8 {
			e.Active = append(e.Active, impl.Active{Query: query(2*i, 0), Todo: []int{0}, Cap: i % 3, Age: promisedOf(e, i%3) - 1})
			e.Done = append(e.Done, impl.Finished{Query: query(23-i, 0), Steps: segments * segments})
		}
		if !impl.IsPromiseKept(e) {
			t.Errorf("IsPromiseKept = false with %d segments", segments)
		}
		for i := range 8 {
			x := cloneEngine(e)
			x.Active[i].Age++
			if impl.IsPromiseKept(x) {
				t.Errorf("IsPromiseKept = true with %d segments and an active query %d that is too old", segments, i)
			}
			x = cloneEngine(e)
			x.Done[i].Steps++
			if impl.IsPromiseKept(x) {
				t.Errorf("IsPromiseKept = true with %d segments and a query %d that ended too late", segments, i)
			}
		}
	}
}

func TestIsPromiseKeptOfEngines(t *testing.T) {
	kept := map[bool]int{}
	engines := append(goodEngines(), fullEngine(), engineOn(storeOf(0, nil)), engineOn(smallStore()))
	for segments := 1; segments <= 8; segments++ {
		for age := range 70 {
			e := evenEngine(segments)
			e.Active = []impl.Active{{Query: query(3, 0), Todo: []int{0}, Age: age, Cap: age % 2}}
			engines = append(engines, e)
		}
	}
	for _, e := range engines {
		got := impl.IsPromiseKept(e)
		if got != isKept(e) {
			t.Errorf("IsPromiseKept = %v of %s", got, engineDump(e))
		}
		kept[got]++
	}
	if kept[true] < 100 || kept[false] < 100 {
		t.Error(kept)
	}
	for _, e := range badEngines() {
		if impl.IsPromiseKept(e) {
			t.Errorf("IsPromiseKept = true of %s", engineDump(e))
		}
	}
	// The promise says nothing about the work: a ledger does not break it.
	if e := agedEngine(0, 3, 16); !impl.IsPromiseKept(impl.Engine{Store: e.Store, Order: e.Order, Active: e.Active, Done: e.Done, Ledger: goodCharges(), Steps: 100000, Cursor: 3}) {
		t.Error("IsPromiseKept = false with a ledger")
	}
}

// checkBounds holds a step against guarantee 6: its work is within the bound of the queries that were active, and nobody is late.
func checkBounds(t *testing.T, before, after impl.Engine) {
	t.Helper()
	if !impl.IsPromiseKept(after) || !isKept(after) {
		t.Fatalf("IsPromiseKept = %v of %s", impl.IsPromiseKept(after), engineDump(after))
	}
	work := impl.WorstStep(after.Ledger[len(before.Ledger):])
	if work > boundOf(len(before.Active)) || work > impl.StepBound(len(before.Active)) {
		t.Fatalf("a step of %d active queries did the work %d: %s", len(before.Active), work, engineDump(after))
	}
}

// budgeted is an engine to which queries are admitted with a budget; it knows until which step each of them is to end.
type budgeted struct {
	impl.Engine
	budget   int
	until    map[int]int
	admitted int
	refused  int
}

// admit admits a query if the budget permits it.
func (b *budgeted) admit(t *testing.T, q impl.Query, limit int) {
	t.Helper()
	x, ok := impl.AdmitQuery(b.Engine, q, limit)
	if impl.CanAdmit(b.Engine, q, limit, math.MaxInt) != ok {
		t.Fatalf("AdmitQuery of %s = %v, unlike CanAdmit", queryDump(q), ok)
	}
	if !impl.CanAdmit(b.Engine, q, limit, b.budget) {
		b.refused++
		return
	}
	b.until[q.Id] = b.Steps + impl.PromisedSteps(b.Engine, limit)
	b.Engine = x
	b.admitted++
}

// next performs an event that looks like chance.
func (b *budgeted) next(t *testing.T, r *random) {
	t.Helper()
	ids := idsOf(b.Engine)
	switch r.upTo(8) {
	case 0, 1:
		b.admit(t, randomQuery(r), r.upTo(2)*r.upTo(9))
	case 2:
		if len(ids) > 4 {
			b.Engine, _ = impl.CancelQuery(b.Engine, ids[r.upTo(len(ids))])
		}
	case 3:
		b.Engine, _ = impl.UpdateEngine(b.Engine, randomUpdate(r, 4*len(b.Store.Segments)))
	case 4:
		b.Engine, _ = impl.SetOrder(b.Engine, probeOrders[r.upTo(6)])
	default:
		b.Engine, _ = impl.StepEngine(b.Engine)
	}
}

// TestPromisesAreKept is guarantee 6 in histories with queries that come and go, updates, orders and budgets: whoever is admitted with a promise ends within it, and no step does more work than the budget allows.
func TestPromisesAreKept(t *testing.T) {
	for segments := 1; segments <= 8; segments++ {
		for _, budget := range []int{7, 8, 15, 16, 36} {
			r := random(97*segments + budget)
			b := budgeted{Engine: evenEngine(segments), budget: budget, until: map[int]int{}}
			for range 500 {
				before := b.Engine
				b.next(t, &r)
				checkBounds(t, before, b.Engine)
				for _, a := range b.Active {
					if b.Steps >= b.until[a.Query.Id] {
						t.Fatalf("after the step %d, the query %s is active, which was to end with the step %d", b.Steps, activeDump(a), b.until[a.Query.Id])
					}
				}
			}
			if worst := impl.WorstStep(b.Ledger); worst > budget {
				t.Errorf("with %d segments and the budget %d, a step did the work %d", segments, budget, worst)
			}
			if budget == 7 && (b.admitted > 0 || len(b.Ledger) > 0) {
				t.Errorf("with the budget 7, %d queries were admitted", b.admitted)
			}
			if budget > 7 && (b.admitted < 8 || len(b.Done) < 8) || b.refused < 5 || b.Steps < 100 {
				t.Errorf("with %d segments and the budget %d, too little happened: %d queries admitted, %d refused, %d ended", segments, budget, b.admitted, b.refused, len(b.Done))
			}
		}
	}
}

// TestAdmissionsLeaveArgumentsAlone looks at the arguments, their unused capacity included.
func TestAdmissionsLeaveArgumentsAlone(t *testing.T) {
	broken := busyEngine()
	broken.Ledger[0].Base = 9
	for _, plain := range []impl.Engine{busyEngine(), crowdedEngine(), engineOn(smallStore()), broken, {}} {
		for _, q := range []impl.Query{query(7, 1, cond(1, 2, 3)), query(5, 1, cond(1, 2, 3)), {}} {
			e, q := roomy(plain), roomy(q)
			before := wholeText(e) + wholeText(q)
			var got []string
			for range 2 {
				got = append(got, fmt.Sprint(impl.PromisedSteps(e, 3), impl.CanAdmit(e, q, 3, 20), impl.CanAdmit(e, q, 3, 19), impl.WorstStep(e.Ledger), impl.IsPromiseKept(e)))
			}
			if text := wholeText(e) + wholeText(q); text != before {
				t.Fatalf("an argument changed: %s, was %s", text, before)
			}
			if got[0] != got[1] {
				t.Errorf("the results %s and %s differ", got[0], got[1])
			}
		}
	}
}
