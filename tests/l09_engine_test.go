package tests

import (
	"fmt"
	"math"
	"reflect"
	"slices"
	"testing"

	"loop.example/g01986/impl"
)

func activeDump(a impl.Active) string {
	return fmt.Sprintf("{%s} at %d todo %v age %d sent %d cap %d rows %s", queryDump(a.Query), a.Time, a.Todo, a.Age, a.Sent, a.Cap, rowsText(a.Rows))
}

func finishedDump(x impl.Finished) string {
	return fmt.Sprintf("{%s} at %d steps %d rows %s", queryDump(x.Query), x.Time, x.Steps, rowsText(x.Rows))
}

// engineDump writes any engine without the empty forms of a list being different.
func engineDump(e impl.Engine) string {
	text := fmt.Sprintf("[%s] cursor %d order %v steps %d", storeDump(e.Store), e.Cursor, e.Order, e.Steps)
	for _, a := range e.Active {
		text += "\n  active " + activeDump(a)
	}
	for _, x := range e.Done {
		text += "\n  done " + finishedDump(x)
	}
	for _, x := range e.Ledger {
		text += "\n  charge " + chargeDump(x)
	}
	return text
}

// engineOn returns an engine with a store and nothing else.
func engineOn(s impl.Store) impl.Engine { return impl.Engine{Store: s, Order: []int{0, 1, 2}} }

// busyEngine has something in each of its parts; its store has three segments, and the time is 5.
func busyEngine() impl.Engine {
	return impl.Engine{
		Store:  smallStore(),
		Cursor: 1,
		Order:  []int{2, 0, 1},
		Active: []impl.Active{
			{Query: query(2, 1, cond(0, 0, 5)), Time: 4, Todo: []int{0, 1, 2}, Cap: 3},
			{Query: query(5, 0), Time: 0, Todo: []int{2}, Age: 4, Sent: 2, Rows: []impl.Row{row(1, 1, 0, 0), row(7, 9, 9, 9)}},
			{Query: query(20, 3, cond(1, 1, 2), cond(2, 0, 9)), Time: 3, Todo: []int{0, 2}, Age: 1, Sent: 1, Cap: 32, Rows: []impl.Row{row(3, 0, 1, 2)}},
		},
		Done: []impl.Finished{
			{Query: query(20, 2), Time: 1, Steps: 3, Rows: []impl.Row{row(1, 1, 0, 0), row(2, 2, 0, 0)}},
			{Query: query(2, 0, cond(2, 5, 5)), Time: 0, Steps: 9},
		},
		Ledger: []impl.Charge{chargeOf(0, 3, [3]int{2, 0, 2}, [3]int{20, 2, 0}), chargeOf(2, 4, [3]int{5, 0, 4})},
		Steps:  9,
	}
}

// fullEngine has as many active queries as there may be, and each other list and number at its limit.
func fullEngine() impl.Engine {
	s := chainStore()
	s.Now = 100000
	e := impl.Engine{Store: s, Cursor: 7, Order: []int{2, 1, 0}, Steps: 100000}
	for i := range 8 {
		e.Active = append(e.Active, impl.Active{Query: query(3*i+2, i%4), Time: 100000 - i, Todo: []int{0, 1, 2, 3, 4, 5, 6, 7}, Age: 100000, Sent: 1000, Cap: 32, Rows: ascending(0, 1000-i)})
	}
	for i := range 1000 {
		e.Done = append(e.Done, impl.Finished{Query: query(i%24, i%4), Time: 100000, Steps: 100000})
		e.Ledger = append(e.Ledger, sharedCharge(1+i%8))
	}
	for i, r := range ascending(0, 1000) {
		// The values of a row go up to 99 only.
		r.Values = []int{i % 100, 99 - i%100, 0}
		e.Done[999].Rows = append(e.Done[999].Rows, r)
		for k := range e.Active {
			if i < len(e.Active[k].Rows) {
				e.Active[k].Rows[i] = r
			}
		}
	}
	return e
}

// crowdedEngine has as many active queries as there may be, each of which sees a time of its own.
func crowdedEngine() impl.Engine {
	e := engineOn(storeOf(8, []impl.Version{lived(0, -1, 1, 1, 1, 1)}, nil, nil))
	for i := range 8 {
		e.Active = append(e.Active, impl.Active{Query: query(3*i+1, i%4, cond(i%3, 0, 90)), Time: i + 1, Todo: []int{i % 3}, Age: i})
		e.Store.Segments[i/4+1] = append(e.Store.Segments[i/4+1], lived(i, i+1, 2, i, i, i))
	}
	e.Active[7].Time = 0
	return e
}

// goodEngines are valid, with each good store and with numbers at the limits among them.
func goodEngines() []impl.Engine {
	l := []impl.Engine{busyEngine(), crowdedEngine()}
	for i, s := range goodStores() {
		last := len(s.Segments) - 1
		l = append(l, engineOn(s), impl.Engine{Store: s, Cursor: last, Order: probeOrders[i%6], Steps: 100000 * (i % 2)})
		l = append(l, impl.Engine{Store: s, Order: probeOrders[i%6], Active: []impl.Active{
			{Query: query(i%8, i%4), Time: s.Now, Todo: []int{last}},
			{Query: query(8+i%15, 0, cond(0, 5, 5)), Time: 0, Todo: []int{0}, Age: 100000, Sent: 1000, Cap: 32, Rows: []impl.Row{row(999, 99, 99, 99), row(0, 0, 0, 0), row(0, 0, 0, 0)}},
			{Query: query(23, 3), Time: s.Now / 2, Todo: []int{last}, Cap: 1},
		}, Done: []impl.Finished{{Query: query(23, 3), Time: s.Now}, {Query: query(23, 1), Steps: 100000}}, Ledger: goodCharges()})
	}
	return l
}

// withPart returns the busy engine after one change.
func withPart(change func(e *impl.Engine)) impl.Engine {
	e := busyEngine()
	change(&e)
	return e
}

// manyRows returns so many rows, all of them valid.
func manyRows(count int) []impl.Row { return slices.Repeat([]impl.Row{row(5, 1, 2, 3)}, count) }

// badEngines are engines that no function takes for valid, most of them for one reason alone.
func badEngines() []impl.Engine {
	l := []impl.Engine{{}, {Store: storeOf(0, nil)}, {Order: []int{0, 1, 2}}}
	with := func(change func(e *impl.Engine)) { l = append(l, withPart(change)) }
	for _, s := range badStores()[:60] {
		l = append(l, engineOn(s))
		with(func(e *impl.Engine) { e.Store = s })
	}
	for _, order := range badOrders()[:80] {
		with(func(e *impl.Engine) { e.Order = order })
	}
	for _, n := range append(numbersAround(2), 3) {
		with(func(e *impl.Engine) { e.Cursor = n })
	}
	for _, n := range numbersAround(100000) {
		with(func(e *impl.Engine) { e.Steps = n })
		with(func(e *impl.Engine) { e.Active[1].Age = n })
		with(func(e *impl.Engine) { e.Done[1].Steps = n })
	}
	for _, n := range append(numbersAround(5), 100000) {
		with(func(e *impl.Engine) { e.Active[2].Time = n })
		with(func(e *impl.Engine) { e.Done[0].Time = n })
	}
	for _, n := range numbersAround(1000) {
		with(func(e *impl.Engine) { e.Active[0].Sent = n })
	}
	for _, n := range numbersAround(32) {
		with(func(e *impl.Engine) { e.Active[0].Cap = n })
	}
	for _, todo := range [][]int{nil, {}, {-1}, {3}, {0, 3}, {-1, 0}, {0, 0}, {1, 0}, {0, 2, 1}, {0, 1, 2, 2}, {0, 1, 2, 3}, {1 << 32}, {math.MinInt}, {0, math.MaxInt}} {
		with(func(e *impl.Engine) { e.Active[1].Todo = todo })
	}
	for _, q := range badQueries() {
		with(func(e *impl.Engine) { e.Active[0].Query = q })
		with(func(e *impl.Engine) { e.Done[1].Query = q })
	}
	for _, r := range badRows {
		with(func(e *impl.Engine) { e.Active[1].Rows[0] = r })
		with(func(e *impl.Engine) { e.Active[2].Rows = append(e.Active[2].Rows, r) })
		with(func(e *impl.Engine) { e.Done[0].Rows[1] = r })
	}
	for _, x := range badCharges() {
		with(func(e *impl.Engine) { e.Ledger[0] = x })
		with(func(e *impl.Engine) { e.Ledger[1] = x })
	}
	// An Id twice, and Ids that descend.
	with(func(e *impl.Engine) { e.Active[1].Query.Id = 2 })
	with(func(e *impl.Engine) { e.Active[2].Query.Id = 5 })
	with(func(e *impl.Engine) { e.Active[0], e.Active[1] = e.Active[1], e.Active[0] })
	with(func(e *impl.Engine) { e.Active[2].Query.Id = 3 })
	// Lists that are too long.
	with(func(e *impl.Engine) { e.Active[2].Rows = manyRows(1001) })
	with(func(e *impl.Engine) { e.Done[1].Rows = manyRows(1001) })
	with(func(e *impl.Engine) { e.Done = slices.Repeat(e.Done[:1], 1001) })
	with(func(e *impl.Engine) { e.Ledger = slices.Repeat(e.Ledger[:1], 1001) })
	with(func(e *impl.Engine) {
		e.Active = nil
		for id := range 9 {
			e.Active = append(e.Active, impl.Active{Query: query(id, 0), Todo: []int{0}})
		}
	})
	return l
}

// refusedOf are some of the bad engines, one of each kind of reason and more.
func refusedOf() []impl.Engine {
	var l []impl.Engine
	for i, e := range badEngines() {
		if i%7 == 0 || i < 3 {
			l = append(l, e)
		}
	}
	return l
}

// cloneEngine returns an engine in memory of its own.
func cloneEngine(e impl.Engine) impl.Engine {
	rows := func(l []impl.Row) []impl.Row {
		var copied []impl.Row
		for _, r := range l {
			copied = append(copied, row(r.Id, slices.Clone(r.Values)...))
		}
		return copied
	}
	queryOf := func(q impl.Query) impl.Query {
		return impl.Query{Id: q.Id, Tenant: q.Tenant, Conds: slices.Clone(q.Conds), Out: slices.Clone(q.Out)}
	}
	x := impl.Engine{Store: cloneStore(e.Store), Cursor: e.Cursor, Order: slices.Clone(e.Order), Steps: e.Steps}
	for _, a := range e.Active {
		a.Query, a.Todo, a.Rows = queryOf(a.Query), slices.Clone(a.Todo), rows(a.Rows)
		x.Active = append(x.Active, a)
	}
	for _, d := range e.Done {
		d.Query, d.Rows = queryOf(d.Query), rows(d.Rows)
		x.Done = append(x.Done, d)
	}
	for _, c := range e.Ledger {
		c.Ids, c.Tenants, c.Rows = slices.Clone(c.Ids), slices.Clone(c.Tenants), slices.Clone(c.Rows)
		x.Ledger = append(x.Ledger, c)
	}
	return x
}

// timesOf returns the times that the active queries of an engine see.
func timesOf(e impl.Engine) []int {
	var times []int
	for _, a := range e.Active {
		times = append(times, a.Time)
	}
	return times
}

func idsOf(e impl.Engine) []int {
	var ids []int
	for _, a := range e.Active {
		ids = append(ids, a.Query.Id)
	}
	return ids
}

// admittedTo is an independent statement of AdmitQuery for valid engines.
func admittedTo(e impl.Engine, q impl.Query, limit int) (impl.Engine, bool) {
	if _, isText := readQuery(queryTextOf(q)); !isText || limit < 0 || limit > 32 || len(e.Active) > 7 || slices.Contains(idsOf(e), q.Id) {
		return e, false
	}
	x := cloneEngine(e)
	a := impl.Active{Query: q, Time: e.Store.Now, Cap: limit}
	for i := range e.Store.Segments {
		a.Todo = append(a.Todo, i)
	}
	x.Active = append(x.Active, a)
	slices.SortFunc(x.Active, func(a, b impl.Active) int { return a.Query.Id - b.Query.Id })
	return x, true
}

// cancelledIn is an independent statement of CancelQuery for valid engines.
func cancelledIn(e impl.Engine, id int) (impl.Engine, bool) {
	if !slices.Contains(idsOf(e), id) {
		return e, false
	}
	x := cloneEngine(e)
	x.Active = slices.DeleteFunc(x.Active, func(a impl.Active) bool { return a.Query.Id == id })
	x.Store, _ = reclaimedFor(x.Store, timesOf(x))
	return x, true
}

// engineUpdatedBy is an independent statement of UpdateEngine for valid engines.
func engineUpdatedBy(e impl.Engine, u impl.Update) (impl.Engine, bool) {
	s, ok := updatedBy(e.Store, u)
	if !ok {
		return e, false
	}
	x := cloneEngine(e)
	x.Store, _ = reclaimedFor(s, timesOf(x))
	return x, true
}

// checkEngine holds a result of a function against that of its independent statement.
func checkEngine(t *testing.T, what string, got impl.Engine, ok bool, want impl.Engine, wantOk bool) {
	t.Helper()
	if ok != wantOk || engineDump(got) != engineDump(want) {
		t.Fatalf("%s = %v, %s\nwant %v, %s", what, ok, engineDump(got), wantOk, engineDump(want))
	}
	if !impl.EqualEngines(got, want) {
		t.Fatalf("%s: EqualEngines = false of %s\nand %s", what, engineDump(got), engineDump(want))
	}
}

func TestEngineConstants(t *testing.T) {
	if impl.MaxActive != 8 || impl.MaxCap != 32 {
		t.Error(impl.MaxActive, impl.MaxCap)
	}
}

func TestNewEngine(t *testing.T) {
	for _, s := range goodStores() {
		// Versions that nobody needs stay: the engine has this store.
		e, ok := impl.NewEngine(s)
		checkEngine(t, "NewEngine of "+storeDump(s), e, ok, impl.Engine{Store: s, Order: []int{0, 1, 2}}, true)
		if !impl.IsEngine(e) {
			t.Errorf("NewEngine(%s) is not valid", storeDump(s))
		}
	}
	for _, s := range badStores() {
		e, ok := impl.NewEngine(s)
		checkEngine(t, "NewEngine of "+storeDump(s), e, ok, impl.Engine{}, false)
	}
}

func TestIsEngine(t *testing.T) {
	for _, e := range append(goodEngines(), fullEngine()) {
		if !impl.IsEngine(e) {
			t.Errorf("IsEngine = false of %s", engineDump(e))
		}
	}
	for _, e := range badEngines() {
		if impl.IsEngine(e) {
			t.Errorf("IsEngine = true of %s", engineDump(e))
		}
	}
}

// TestIsEngineAtLimits goes over each limit of the full engine, by one.
func TestIsEngineAtLimits(t *testing.T) {
	full := fullEngine()
	if !impl.IsEngine(full) {
		t.Fatal("the full engine is not valid")
	}
	for i, change := range []func(e *impl.Engine){
		func(e *impl.Engine) { e.Cursor++ },
		func(e *impl.Engine) { e.Steps++ },
		func(e *impl.Engine) { e.Store.Now-- },
		func(e *impl.Engine) { e.Store.Now++ },
		func(e *impl.Engine) { e.Active[7].Age++ },
		func(e *impl.Engine) { e.Active[7].Sent++ },
		func(e *impl.Engine) { e.Active[7].Cap++ },
		func(e *impl.Engine) { e.Active[0].Time++ },
		func(e *impl.Engine) { e.Active[7].Query.Id = 24 },
		func(e *impl.Engine) { e.Active[7].Query.Id = 20 },
		func(e *impl.Engine) { e.Active[7].Todo = append(e.Active[7].Todo, 8) },
		func(e *impl.Engine) { e.Active[7].Todo[7] = 8 },
		func(e *impl.Engine) { e.Active[0].Rows = append(e.Active[0].Rows, row(1, 1, 1, 1)) },
		func(e *impl.Engine) {
			e.Active = append(e.Active, impl.Active{Query: query(0, 0), Todo: []int{0}})
			slices.SortFunc(e.Active, func(a, b impl.Active) int { return a.Query.Id - b.Query.Id })
		},
		func(e *impl.Engine) { e.Done = append(e.Done, e.Done[0]) },
		func(e *impl.Engine) { e.Done[999].Steps++ },
		func(e *impl.Engine) { e.Done[500].Time++ },
		func(e *impl.Engine) { e.Done[999].Rows = append(e.Done[999].Rows, row(1, 1, 1, 1)) },
		func(e *impl.Engine) { e.Done[999].Rows[999].Id = 1000 },
		func(e *impl.Engine) { e.Done[0].Query.Tenant = 4 },
		func(e *impl.Engine) { e.Ledger = append(e.Ledger, e.Ledger[0]) },
		func(e *impl.Engine) { e.Ledger[999].Base = 5 },
		func(e *impl.Engine) { e.Ledger[0].Segment = 8 },
	} {
		e := cloneEngine(full)
		change(&e)
		if impl.IsEngine(e) {
			t.Errorf("IsEngine = true of a full engine with the change %d", i)
		}
	}
	full.Done, full.Ledger, full.Active = full.Done[1:], full.Ledger[1:], full.Active[1:]
	if !impl.IsEngine(full) {
		t.Error("IsEngine = false of an engine with less of everything")
	}
}

// TestIsEngineAllows is about what looks odd and is valid all the same.
func TestIsEngineAllows(t *testing.T) {
	for i, change := range []func(e *impl.Engine){
		func(e *impl.Engine) { e.Active[0].Sent = 1000 },                                    // more than Cap
		func(e *impl.Engine) { e.Active[1].Rows = slices.Repeat(e.Active[1].Rows[:1], 9) },  // a row again and again
		func(e *impl.Engine) { e.Active[1].Rows = []impl.Row{row(9, 0, 0, 0)} },             // a row that the table does not have
		func(e *impl.Engine) { slices.Reverse(e.Active[1].Rows) },                           // in any order
		func(e *impl.Engine) { e.Done = slices.Repeat(e.Done[:1], 1000) },                   // a query that ended again and again
		func(e *impl.Engine) { slices.Reverse(e.Done) },                                     // in any order
		func(e *impl.Engine) { e.Ledger[1].Segment = 7 },                                    // a segment that the store does not have
		func(e *impl.Engine) { e.Steps = 0 },                                                // fewer than the queries have
		func(e *impl.Engine) { e.Active[0].Time, e.Done[0].Time = 0, 5 },                    // a time that was reclaimed
		func(e *impl.Engine) { e.Active[0].Query.Out = []int{2, 2, 2} },                     // a field again and again
		func(e *impl.Engine) { e.Store.Segments[0] = nil },                                  // a segment without versions
		func(e *impl.Engine) { e.Active, e.Done, e.Ledger = nil, []impl.Finished{}, nil },   // nothing
		func(e *impl.Engine) { e.Done[1].Query.Tenant, e.Done[1].Query.Id = 3, 20 },         // an Id of an active query
		func(e *impl.Engine) { e.Active[0].Age, e.Active[0].Todo = 100000, []int{0, 1, 2} }, // old, and nothing scanned
	} {
		if e := withPart(change); !impl.IsEngine(e) {
			t.Errorf("IsEngine = false with the change %d of %s", i, engineDump(e))
		}
	}
}

func TestAdmitQuery(t *testing.T) {
	e := busyEngine()
	got, ok := impl.AdmitQuery(e, query(7, 2, cond(1, 3, 4)), 9)
	if !ok || len(got.Active) != 4 {
		t.Fatalf("AdmitQuery = %v, %s", ok, engineDump(got))
	}
	if want := "{7 2 [{1 3 4}] [0 1 2]} at 5 todo [0 1 2] age 0 sent 0 cap 9 rows "; activeDump(got.Active[2]) != want {
		t.Errorf("AdmitQuery adds %s, want %s", activeDump(got.Active[2]), want)
	}
	got.Active = slices.Delete(got.Active, 2, 3)
	if engineDump(got) != engineDump(e) {
		t.Errorf("AdmitQuery leads to %s beside the query, want %s", engineDump(got), engineDump(e))
	}
	for segments := 1; segments <= 8; segments++ {
		s, _ := impl.NewStore(ascending(0, 4), segments)
		e, _ := impl.NewEngine(s)
		got, ok := impl.AdmitQuery(e, query(0, 0), 0)
		want := fmt.Sprintf("{0 0 [] [0 1 2]} at 0 todo %v age 0 sent 0 cap 0 rows ", []int{0, 1, 2, 3, 4, 5, 6, 7}[:segments])
		if !ok || len(got.Active) != 1 || activeDump(got.Active[0]) != want {
			t.Errorf("AdmitQuery with %d segments = %v, %s, want %s", segments, ok, engineDump(got), want)
		}
	}
}

// TestAdmitQueryInAnyOrder admits the same queries in all orders: they are in the order of their Ids.
func TestAdmitQueryInAnyOrder(t *testing.T) {
	for _, ids := range listsOf([]int{0, 5, 9, 23}, 4) {
		e := engineOn(smallStore())
		want := e
		for i, id := range ids {
			q := query(id, i%4, cond(i%3, i, 50))
			admitted, ok := impl.AdmitQuery(e, q, 8*i)
			next, wantOk := admittedTo(want, q, 8*i)
			checkEngine(t, fmt.Sprintf("AdmitQuery of %v, query %d", ids, i), admitted, ok, next, wantOk)
			e, want = admitted, next
		}
		if !slices.IsSorted(idsOf(e)) || !impl.IsEngine(e) {
			t.Errorf("AdmitQuery of %v leads to %s", ids, engineDump(e))
		}
	}
}

// TestAdmitQueryUpToTheLimit admits one query after the other, until no other one is taken.
func TestAdmitQueryUpToTheLimit(t *testing.T) {
	e := engineOn(smallStore())
	for i := range 24 {
		id := i * 7 % 24
		got, ok := impl.AdmitQuery(e, query(id, 0), i%33)
		want, wantOk := admittedTo(e, query(id, 0), i%33)
		checkEngine(t, fmt.Sprintf("AdmitQuery of %d as number %d", id, i), got, ok, want, wantOk)
		if ok != (i < 8) || !impl.IsEngine(got) {
			t.Errorf("AdmitQuery with %d active queries = %v", i, ok)
		}
		e = got
	}
	e, _ = impl.CancelQuery(e, 21)
	if _, ok := impl.AdmitQuery(e, query(23, 0), 0); !ok {
		t.Error("there is no room after a query was cancelled")
	}
}

func TestAdmitQueryOfEngines(t *testing.T) {
	admitted := 0
	for i, e := range goodEngines() {
		for _, q := range []impl.Query{query(0, 0), query(1, 3, cond(0, 1, 2)), query(i%24, i%4), query(23, 1), query(22, 0)} {
			for _, limit := range []int{-1, 0, 1, 31, 32, 33} {
				got, ok := impl.AdmitQuery(e, q, limit)
				want, wantOk := admittedTo(e, q, limit)
				checkEngine(t, fmt.Sprintf("AdmitQuery of %s with %d", queryDump(q), limit), got, ok, want, wantOk)
				if !impl.IsEngine(got) {
					t.Errorf("AdmitQuery leads to %s, which is not valid", engineDump(got))
				}
				if ok {
					admitted++
				}
			}
		}
	}
	if admitted < 200 {
		t.Errorf("only %d queries were admitted", admitted)
	}
}

func TestAdmitQueryRefuses(t *testing.T) {
	refuses := func(e impl.Engine, q impl.Query, limit int) {
		t.Helper()
		got, ok := impl.AdmitQuery(e, q, limit)
		checkEngine(t, fmt.Sprintf("AdmitQuery of %s with %d", queryDump(q), limit), got, ok, e, false)
	}
	for _, e := range []impl.Engine{busyEngine(), engineOn(smallStore())} {
		for _, q := range badQueries() {
			refuses(e, q, 0)
		}
		for _, limit := range numbersAround(32) {
			refuses(e, query(7, 0), limit)
		}
	}
	for _, id := range []int{2, 5, 20} {
		refuses(busyEngine(), query(id, 0), 0)
		refuses(busyEngine(), query(id, 3, cond(0, 0, 1)), 32)
	}
	refuses(fullEngine(), query(0, 0), 0)
	refuses(fullEngine(), query(23, 0), 0)
	refuses(crowdedEngine(), query(0, 0), 0)
	refuses(crowdedEngine(), query(22, 0), 32)
	for _, e := range refusedOf() {
		refuses(e, query(7, 0), 0)
	}
}

func TestCancelQuery(t *testing.T) {
	before := busyEngine()
	for _, c := range []struct {
		id    int
		rest  string
		store string
	}{
		// The versions of smallStore that are dead: 1 from 0 to 3, 2 from 1 to 2, 2 from 2 to 5, 2 from 0 to 1, 3 from 4 to 5 and 3 from 0 to 2.
		{2, "[5 20]", "now 5; 3: 1 [1 1 1] 3--1 1 [1 0 0] 0-3 2 [2 1 1] 2-5; 0:; 3: 2 [2 2 2] 5--1 2 [2 9 9] 0-1 3 [3 0 0] 0-2"},
		{5, "[2 20]", "now 5; 2: 1 [1 1 1] 3--1 2 [2 1 1] 2-5; 0:; 2: 2 [2 2 2] 5--1 3 [3 1 1] 4-5"},
		{20, "[2 5]", "now 5; 3: 1 [1 1 1] 3--1 1 [1 0 0] 0-3 2 [2 1 1] 2-5; 0:; 4: 2 [2 2 2] 5--1 2 [2 9 9] 0-1 3 [3 1 1] 4-5 3 [3 0 0] 0-2"},
	} {
		got, ok := impl.CancelQuery(before, c.id)
		if !ok || fmt.Sprint(idsOf(got)) != c.rest || storeDump(got.Store) != c.store {
			t.Errorf("CancelQuery of %d = %v, %s, want %s and the store %s", c.id, ok, engineDump(got), c.rest, c.store)
		}
		want, wantOk := cancelledIn(before, c.id)
		checkEngine(t, fmt.Sprint("CancelQuery of ", c.id), got, ok, want, wantOk)
		if impl.FindActive(got, c.id) != -1 || !impl.IsEngine(got) {
			t.Errorf("CancelQuery of %d leads to %s", c.id, engineDump(got))
		}
		again, ok := impl.CancelQuery(got, c.id)
		checkEngine(t, fmt.Sprint("CancelQuery a second time of ", c.id), again, ok, got, false)
	}
}

// TestCancelAllQueries cancels the queries of each engine one by one, in two orders: the last one takes all dead versions along.
func TestCancelAllQueries(t *testing.T) {
	for _, start := range append(goodEngines(), fullEngine()) {
		ids := idsOf(start)
		for range 2 {
			slices.Reverse(ids)
			e := start
			for _, id := range ids {
				got, ok := impl.CancelQuery(e, id)
				want, wantOk := cancelledIn(e, id)
				checkEngine(t, fmt.Sprint("CancelQuery of ", id), got, ok, want, wantOk)
				if !ok || !impl.IsEngine(got) {
					t.Errorf("CancelQuery of %d = %v, %s", id, ok, engineDump(got))
				}
				for _, a := range got.Active {
					if before, after := shownAt(start.Store, a.Time), shownAt(got.Store, a.Time); before != after {
						t.Errorf("the time %d showed %s, and shows %s after query %d was cancelled", a.Time, before, after, id)
					}
				}
				e = got
			}
			if len(e.Active) != 0 || len(ids) > 0 && impl.CountVersions(e.Store) != len(impl.RowsAt(e.Store, e.Store.Now)) {
				t.Errorf("after all queries were cancelled, the engine is %s", engineDump(e))
			}
		}
	}
}

// TestCancelBeforeTheFirstStep is about a query that is cancelled before it took part in a step.
func TestCancelBeforeTheFirstStep(t *testing.T) {
	for _, s := range goodStores() {
		small, _ := impl.ReclaimStore(s, nil)
		for limit := 0; limit <= 32; limit += 16 {
			start := engineOn(small)
			e, ok := impl.AdmitQuery(start, query(9, 1), limit)
			if !ok || impl.FindActive(e, 9) != 0 {
				t.Fatalf("AdmitQuery = %v, %s", ok, engineDump(e))
			}
			// No step was made: it leaves neither a result nor a charge.
			got, ok := impl.CancelQuery(e, 9)
			checkEngine(t, "CancelQuery before the first step", got, ok, start, true)
		}
	}
	// Of the versions, those that it alone would have seen go with it.
	e := engineOn(storeOf(0, []impl.Version{lived(0, -1, 1, 1, 1, 1), lived(0, -1, 2, 2, 2, 2)}, nil))
	for _, step := range []struct {
		do   func() (impl.Engine, bool)
		want string
	}{
		{func() (impl.Engine, bool) { return impl.AdmitQuery(e, query(3, 0), 0) }, "now 0; 2: 1 [1 1 1] 0--1 2 [2 2 2] 0--1; 0:"},
		{func() (impl.Engine, bool) { return impl.UpdateEngine(e, setTo(1, 0, 9)) }, "now 1; 3: 1 [1 1 1] 0-1 2 [2 2 2] 0--1 1 [9 1 1] 1--1; 0:"},
		{func() (impl.Engine, bool) { return impl.AdmitQuery(e, query(1, 0), 0) }, "now 1; 3: 1 [1 1 1] 0-1 2 [2 2 2] 0--1 1 [9 1 1] 1--1; 0:"},
		{func() (impl.Engine, bool) { return impl.UpdateEngine(e, deleteOf(1)) }, "now 2; 3: 1 [1 1 1] 0-1 2 [2 2 2] 0--1 1 [9 1 1] 1-2; 0:"},
		{func() (impl.Engine, bool) { return impl.UpdateEngine(e, deleteOf(2)) }, "now 3; 3: 1 [1 1 1] 0-1 2 [2 2 2] 0-3 1 [9 1 1] 1-2; 0:"},
		{func() (impl.Engine, bool) { return impl.CancelQuery(e, 1) }, "now 3; 2: 1 [1 1 1] 0-1 2 [2 2 2] 0-3; 0:"},
		{func() (impl.Engine, bool) { return impl.AdmitQuery(e, query(1, 0), 0) }, "now 3; 2: 1 [1 1 1] 0-1 2 [2 2 2] 0-3; 0:"},
		{func() (impl.Engine, bool) { return impl.CancelQuery(e, 3) }, "now 3; 0:; 0:"},
		{func() (impl.Engine, bool) { return impl.CancelQuery(e, 1) }, "now 3; 0:; 0:"},
	} {
		got, ok := step.do()
		if !ok || storeDump(got.Store) != step.want || !impl.IsEngine(got) {
			t.Fatalf("the engine is %s, %v, want the store %s", engineDump(got), ok, step.want)
		}
		if len(got.Done) != 0 || len(got.Ledger) != 0 || got.Steps != 0 || got.Cursor != 0 {
			t.Fatalf("without a step, the engine is %s", engineDump(got))
		}
		e = got
	}
	// Its Id is free again, and a query that has it then sees the new time.
	e = engineOn(storeOf(0, nil))
	e, _ = impl.AdmitQuery(e, query(3, 0, cond(0, 1, 1)), 7)
	e, _ = impl.CancelQuery(e, 3)
	e, _ = impl.UpdateEngine(e, insertOf(row(1, 1, 2, 3)))
	e, ok := impl.AdmitQuery(e, query(3, 2), 0)
	if want := "{3 2 [] [0 1 2]} at 1 todo [0] age 0 sent 0 cap 0 rows "; !ok || len(e.Active) != 1 || activeDump(e.Active[0]) != want {
		t.Errorf("AdmitQuery of a cancelled Id = %v, %s, want %s", ok, engineDump(e), want)
	}
}

func TestCancelQueryRefuses(t *testing.T) {
	refuses := func(e impl.Engine, id int) {
		t.Helper()
		got, ok := impl.CancelQuery(e, id)
		checkEngine(t, fmt.Sprint("CancelQuery of ", id), got, ok, e, false)
	}
	for _, e := range goodEngines() {
		for id := -1; id <= 25; id++ {
			if !slices.Contains(idsOf(e), id) {
				refuses(e, id)
			}
		}
		refuses(e, 1<<32+2)
		refuses(e, math.MinInt)
		refuses(e, math.MaxInt)
	}
	for _, e := range refusedOf() {
		for _, id := range append(idsOf(e), -1, 0, 2, 5, 20) {
			refuses(e, id)
		}
	}
}

func TestUpdateEngine(t *testing.T) {
	e := engineOn(storeOf(5,
		[]impl.Version{lived(0, -1, 1, 1, 1, 1), lived(2, 4, 2, 2, 2, 2), lived(0, 2, 2, 3, 3, 3)},
		[]impl.Version{lived(5, -1, 3, 3, 3, 3), lived(1, 5, 3, 4, 4, 4)}))
	watched := cloneEngine(e)
	watched.Active = []impl.Active{{Query: query(1, 1), Time: 5, Todo: []int{1}}, {Query: query(8, 1), Time: 3, Todo: []int{0}}}
	for _, c := range []struct {
		why  string
		e    impl.Engine
		u    impl.Update
		want string
	}{
		{"an insertion takes room that is reclaimed afterwards", e, insertOf(row(7, 7, 7, 7)), "now 6; 2: 1 [1 1 1] 0--1 7 [7 7 7] 6--1; 1: 3 [3 3 3] 5--1"},
		{"a deletion", e, deleteOf(3), "now 6; 1: 1 [1 1 1] 0--1; 0:"},
		{"a setting", e, setTo(3, 2, 0), "now 6; 2: 1 [1 1 1] 0--1 3 [3 3 0] 6--1; 0:"},
		{"queries keep what they see", watched, insertOf(row(7, 7, 7, 7)), "now 6; 3: 1 [1 1 1] 0--1 2 [2 2 2] 2-4 7 [7 7 7] 6--1; 2: 3 [3 3 3] 5--1 3 [4 4 4] 1-5"},
		{"queries keep what dies", watched, deleteOf(3), "now 6; 2: 1 [1 1 1] 0--1 2 [2 2 2] 2-4; 2: 3 [3 3 3] 5-6 3 [4 4 4] 1-5"},
		{"queries keep the old values", watched, setTo(1, 0, 9), "now 6; 3: 1 [1 1 1] 0-6 2 [2 2 2] 2-4 1 [9 1 1] 6--1; 2: 3 [3 3 3] 5--1 3 [4 4 4] 1-5"},
	} {
		got, ok := impl.UpdateEngine(c.e, c.u)
		if !ok || storeDump(got.Store) != c.want || !impl.IsEngine(got) {
			t.Errorf("%s: UpdateEngine by %q = %v, %s, want %s", c.why, updateTextOf(c.u), ok, engineDump(got), c.want)
		}
		got.Store = c.e.Store
		if engineDump(got) != engineDump(c.e) {
			t.Errorf("%s: UpdateEngine by %q leads to %s beside the store, want %s", c.why, updateTextOf(c.u), engineDump(got), engineDump(c.e))
		}
	}
}

// TestUpdateBeforeReclaim is about a store without room whose dead versions nobody needs: the update fails, since it comes first.
func TestUpdateBeforeReclaim(t *testing.T) {
	e := engineOn(chainStore())
	for _, u := range []impl.Update{insertOf(row(1, 1, 1, 1)), setTo(7, 0, 0)} {
		got, ok := impl.UpdateEngine(e, u)
		checkEngine(t, "UpdateEngine without room", got, ok, e, false)
	}
	got, ok := impl.UpdateEngine(e, deleteOf(7))
	checkEngine(t, "UpdateEngine that needs no room", got, ok, engineOn(storeOf(32, make([][]impl.Version, 8)...)), true)
}

func TestUpdateEngineOfEngines(t *testing.T) {
	updated := 0
	for _, e := range goodEngines() {
		for _, u := range updatesOn(e.Store) {
			got, ok := impl.UpdateEngine(e, u)
			want, wantOk := engineUpdatedBy(e, u)
			checkEngine(t, "UpdateEngine by "+updateDump(u), got, ok, want, wantOk)
			if !impl.IsEngine(got) {
				t.Errorf("UpdateEngine by %q leads to %s, which is not valid", updateTextOf(u), engineDump(got))
			}
			for _, a := range e.Active {
				if before, after := shownAt(e.Store, a.Time), shownAt(got.Store, a.Time); before != after {
					t.Errorf("the time %d showed %s, and shows %s after %q", a.Time, before, after, updateTextOf(u))
				}
			}
			if ok {
				updated++
			}
		}
	}
	if updated < 100 {
		t.Errorf("only %d updates succeeded", updated)
	}
}

func TestUpdateEngineRefuses(t *testing.T) {
	refuses := func(e impl.Engine, u impl.Update) {
		t.Helper()
		got, ok := impl.UpdateEngine(e, u)
		checkEngine(t, "UpdateEngine by "+updateDump(u), got, ok, e, false)
	}
	for _, u := range badUpdates() {
		refuses(busyEngine(), u)
		refuses(engineOn(storeOf(0, nil)), u)
	}
	for _, u := range []impl.Update{insertOf(row(1, 1, 1, 1)), insertOf(row(2, 0, 0, 0)), deleteOf(3), deleteOf(0), setTo(3, 0, 1), setTo(999, 0, 1)} {
		refuses(busyEngine(), u)
	}
	for _, u := range []impl.Update{insertOf(row(5, 1, 1, 1)), deleteOf(1), setTo(1, 0, 1)} {
		refuses(engineOn(storeOf(100000, []impl.Version{lived(0, -1, 1, 1, 1, 1)})), u)
	}
	for _, e := range refusedOf() {
		for _, u := range []impl.Update{insertOf(row(800, 1, 2, 3)), deleteOf(1), setTo(2, 0, 0), {}} {
			refuses(e, u)
		}
	}
}

func TestSetOrder(t *testing.T) {
	for _, e := range append(goodEngines(), fullEngine()) {
		for _, order := range probeOrders {
			want := cloneEngine(e)
			want.Order = order
			got, ok := impl.SetOrder(e, order)
			checkEngine(t, fmt.Sprint("SetOrder ", order), got, ok, want, true)
		}
	}
	for _, order := range badOrders() {
		got, ok := impl.SetOrder(busyEngine(), order)
		checkEngine(t, fmt.Sprint("SetOrder ", order), got, ok, busyEngine(), false)
	}
	for _, e := range refusedOf() {
		got, ok := impl.SetOrder(e, []int{1, 0, 2})
		checkEngine(t, "SetOrder of an engine that is not valid", got, ok, e, false)
	}
	// Not even an order that would make the engine valid.
	e := withPart(func(e *impl.Engine) { e.Order = nil })
	got, ok := impl.SetOrder(e, []int{0, 1, 2})
	checkEngine(t, "SetOrder of an engine without an order", got, ok, e, false)
}

func TestFindActive(t *testing.T) {
	with := func(ids ...int) impl.Engine {
		e := impl.Engine{}
		for _, id := range ids {
			e.Active = append(e.Active, impl.Active{Query: impl.Query{Id: id}})
		}
		return e
	}
	for _, c := range []struct {
		e        impl.Engine
		id, want int
	}{
		{busyEngine(), 2, 0},
		{busyEngine(), 5, 1},
		{busyEngine(), 20, 2},
		{busyEngine(), 0, -1},
		{busyEngine(), 3, -1},
		{busyEngine(), 23, -1},
		{busyEngine(), -1, -1},
		{fullEngine(), 23, 7},
		{engineOn(smallStore()), 0, -1},
		{impl.Engine{}, 0, -1},
		// The engine need not be valid.
		{with(0), 0, 0},
		{with(9, 4, 7), 4, 1},
		{with(9, 4, 7), 7, 2},
		{with(4, 9, 4, 9), 9, 1},
		{with(4, 9, 4, 9), 4, 0},
		{with(-1, 24, math.MinInt, math.MaxInt), -1, 0},
		{with(-1, 24, math.MinInt, math.MaxInt), 24, 1},
		{with(-1, 24, math.MinInt, math.MaxInt), math.MinInt, 2},
		{with(-1, 24, math.MinInt, math.MaxInt), math.MaxInt, 3},
		{with(1<<32, 2, 2, 3, 4, 5, 6, 7, 8, 9, 10), 10, 10},
		{with(1 << 32), 0, -1},
	} {
		if got := impl.FindActive(c.e, c.id); got != c.want {
			t.Errorf("FindActive of %d in %v = %d, want %d", c.id, idsOf(c.e), got, c.want)
		}
	}
}

// changedEngines are engines that differ from the busy one in one part each.
func changedEngines() []impl.Engine {
	var l []impl.Engine
	for _, change := range []func(e *impl.Engine){
		func(e *impl.Engine) { e.Store.Now++ },
		func(e *impl.Engine) { e.Store.Segments[0][1].Values[2]++ },
		func(e *impl.Engine) { e.Store.Segments = e.Store.Segments[:2] },
		func(e *impl.Engine) { e.Cursor++ },
		func(e *impl.Engine) { e.Steps++ },
		func(e *impl.Engine) { e.Steps += 1 << 32 },
		func(e *impl.Engine) { e.Order = []int{2, 1, 0} },
		func(e *impl.Engine) { e.Order = nil },
		func(e *impl.Engine) { e.Active = e.Active[:2] },
		func(e *impl.Engine) { e.Active = append(e.Active, impl.Active{}) },
		func(e *impl.Engine) { e.Active[0], e.Active[1] = e.Active[1], e.Active[0] },
		func(e *impl.Engine) { e.Active[2].Query.Id++ },
		func(e *impl.Engine) { e.Active[2].Query.Tenant = 0 },
		func(e *impl.Engine) { e.Active[2].Query.Conds = nil },
		func(e *impl.Engine) { e.Active[2].Query.Conds[1].High = 8 },
		func(e *impl.Engine) { e.Active[2].Query.Conds[1].Low = 8 },
		func(e *impl.Engine) { e.Active[2].Query.Conds[0].Field = 0 },
		func(e *impl.Engine) { e.Active[2].Query.Out = []int{0, 2, 1} },
		func(e *impl.Engine) { e.Active[2].Time++ },
		func(e *impl.Engine) { e.Active[2].Todo = []int{0, 1} },
		func(e *impl.Engine) { e.Active[2].Todo = []int{0} },
		func(e *impl.Engine) { e.Active[2].Age++ },
		func(e *impl.Engine) { e.Active[2].Sent++ },
		func(e *impl.Engine) { e.Active[2].Cap-- },
		func(e *impl.Engine) { e.Active[2].Rows = nil },
		func(e *impl.Engine) { e.Active[1].Rows[1].Id++ },
		func(e *impl.Engine) { e.Active[1].Rows[1].Values[2]++ },
		func(e *impl.Engine) { e.Active[1].Rows[1].Values = append(e.Active[1].Rows[1].Values, 0) },
		func(e *impl.Engine) { e.Done = nil },
		func(e *impl.Engine) { slices.Reverse(e.Done) },
		func(e *impl.Engine) { e.Done = append(e.Done, impl.Finished{}) },
		func(e *impl.Engine) { e.Done[0].Query.Id++ },
		func(e *impl.Engine) { e.Done[0].Query.Tenant = 0 },
		func(e *impl.Engine) { e.Done[1].Query.Conds = nil },
		func(e *impl.Engine) { e.Done[0].Query.Out = []int{0, 1} },
		func(e *impl.Engine) { e.Done[0].Time++ },
		func(e *impl.Engine) { e.Done[0].Steps++ },
		func(e *impl.Engine) { e.Done[0].Rows = e.Done[0].Rows[:1] },
		func(e *impl.Engine) { slices.Reverse(e.Done[0].Rows) },
		func(e *impl.Engine) { e.Ledger = e.Ledger[:1] },
		func(e *impl.Engine) { slices.Reverse(e.Ledger) },
		func(e *impl.Engine) { e.Ledger[1].Segment = 7 },
		func(e *impl.Engine) { e.Ledger[0].Base = 4 },
		func(e *impl.Engine) { e.Ledger[0].Ids[0] = 1 },
		func(e *impl.Engine) { e.Ledger[0].Tenants[1] = 1 },
		func(e *impl.Engine) { e.Ledger[0].Rows[1] = 1 },
		func(e *impl.Engine) { e.Ledger[0].Rows = nil },
	} {
		l = append(l, withPart(change))
	}
	return l
}

// TestEqualEngines holds each pair of engines, valid or not, against their texts.
func TestEqualEngines(t *testing.T) {
	some := func() []impl.Engine {
		bad := badEngines()
		l := append(changedEngines(), busyEngine(), impl.Engine{})
		for _, e := range goodEngines()[2:30] {
			l = append(l, e)
		}
		for i := 0; i < len(bad); i += 3 {
			l = append(l, bad[i])
		}
		return l
	}
	engines, again := some(), some()
	texts := make([]string, len(engines))
	for i, e := range engines {
		texts[i] = engineDump(e)
	}
	for i, a := range engines {
		for k, b := range again {
			if got := impl.EqualEngines(a, b); got != (texts[i] == texts[k]) {
				t.Fatalf("EqualEngines = %v of %s\nand %s", got, texts[i], texts[k])
			}
		}
	}
	full := fullEngine()
	if !impl.EqualEngines(full, fullEngine()) {
		t.Error("EqualEngines = false of two full engines")
	}
	full.Done[999].Rows[999].Values[2]++
	if impl.EqualEngines(full, fullEngine()) {
		t.Error("EqualEngines = true of engines whose last row differs")
	}
}

// TestEqualEnginesOfEmptyLists is about the two forms of an empty list.
func TestEqualEnginesOfEmptyLists(t *testing.T) {
	empty := impl.Engine{
		Store: impl.Store{Segments: [][]impl.Version{}}, Order: []int{}, Active: []impl.Active{}, Done: []impl.Finished{}, Ledger: []impl.Charge{},
	}
	inside := func(conds []impl.Cond, ints []int, rows []impl.Row) impl.Engine {
		q := impl.Query{Conds: conds, Out: ints}
		return impl.Engine{
			Active: []impl.Active{{Query: q, Todo: ints, Rows: rows}, {Rows: []impl.Row{{Values: ints}}}},
			Done:   []impl.Finished{{Query: q, Rows: rows}},
			Ledger: []impl.Charge{{Ids: ints, Tenants: ints, Rows: ints}},
		}
	}
	if !impl.EqualEngines(empty, impl.Engine{}) || !impl.EqualEngines(impl.Engine{}, empty) {
		t.Error("EqualEngines = false of two engines without anything")
	}
	a, b := inside(nil, nil, nil), inside([]impl.Cond{}, []int{}, []impl.Row{})
	if !impl.EqualEngines(a, b) || !impl.EqualEngines(b, a) {
		t.Error("EqualEngines = false of two engines with the forms of an empty list")
	}
}

// watch is what a query has to get: what it would get alone in the state at its admission.
type watch struct {
	active string
	answer string
	shown  string
}

func watchOf(e impl.Engine, a impl.Active) watch {
	return watch{activeDump(a), rowsText(impl.AnswerAlone(a.Query, impl.RowsAt(e.Store, a.Time))), shownAt(e.Store, a.Time)}
}

// TestQueriesKeepTheirState is this chapter's part of guarantee 5: whatever queries are admitted and cancelled beside a query and whatever updates are made, the store goes on showing it the rows that it would get alone in the state at its admission.
func TestQueriesKeepTheirState(t *testing.T) {
	for segments := 1; segments <= 8; segments++ {
		s, _ := impl.NewStore(ascending(0, segments), segments)
		e, ok := impl.NewEngine(s)
		model := e
		watched := map[int]watch{}
		counts := map[string]int{}
		state := 77 * segments
		for n := range 800 {
			state = (state*1103515245 + 12345) % (1 << 31)
			id, value, kind := state>>8%(3*segments), state>>20%100, state>>16%9
			var next impl.Engine
			var wantOk bool
			what := ""
			switch kind {
			case 0, 1:
				q := query(value%24, n%4, cond(n%3, value/2, 99))
				what = "admit"
				next, wantOk = admittedTo(model, q, n%33)
				e, ok = impl.AdmitQuery(e, q, n%33)
			case 2:
				what = "cancel"
				next, wantOk = cancelledIn(model, value%24)
				e, ok = impl.CancelQuery(e, value%24)
				if ok {
					delete(watched, value%24)
				}
			case 3:
				what = "order"
				next, wantOk = cloneEngine(model), true
				next.Order = probeOrders[n%6]
				e, ok = impl.SetOrder(e, probeOrders[n%6])
			default:
				u := []impl.Update{insertOf(row(id, value, n%100, 5)), insertOf(row(id, 5, value, 5)), deleteOf(id), setTo(id, n%3, value), setTo(id, 2, value)}[kind-4]
				what = fmt.Sprint("update ", u.Kind)
				next, wantOk = engineUpdatedBy(model, u)
				e, ok = impl.UpdateEngine(e, u)
			}
			checkEngine(t, what, e, ok, next, wantOk)
			model = next
			if ok {
				counts[what]++
			}
			if !impl.IsEngine(e) || len(e.Active) != len(watched) && what != "admit" {
				t.Fatalf("after %s, the engine is %s", what, engineDump(e))
			}
			for _, a := range e.Active {
				was, isOld := watched[a.Query.Id]
				if !isOld {
					watched[a.Query.Id] = watchOf(e, a)
					continue
				}
				if got := watchOf(e, a); got != was {
					t.Fatalf("after %s, the query %d has %v, but it had %v", what, a.Query.Id, got, was)
				}
			}
		}
		for _, what := range []string{"admit", "cancel", "order", "update 1", "update 2", "update 3"} {
			if counts[what] < 5 {
				t.Errorf("with %d segments, too few changes succeeded: %v", segments, counts)
			}
		}
	}
}

// slicesIn calls visit for each slice in a value, and for each one in the elements of a slice up to its capacity.
func slicesIn(v reflect.Value, visit func(l reflect.Value)) {
	switch v.Kind() {
	case reflect.Struct:
		for i := range v.NumField() {
			slicesIn(v.Field(i), visit)
		}
	case reflect.Slice:
		visit(v)
		whole := v.Slice(0, v.Cap())
		for i := range whole.Len() {
			slicesIn(whole.Index(i), visit)
		}
	}
}

// sharesMemory tells whether two slices in the values have memory in common, their unused capacity included.
func sharesMemory(values ...any) bool {
	type block struct{ begin, end uintptr }
	var blocks []block
	for _, value := range values {
		slicesIn(reflect.ValueOf(value), func(l reflect.Value) {
			if l.Cap() > 0 {
				blocks = append(blocks, block{l.Pointer(), l.Pointer() + uintptr(l.Cap())*l.Type().Elem().Size()})
			}
		})
	}
	slices.SortFunc(blocks, func(a, b block) int { return int(a.begin) - int(b.begin) })
	for i := range blocks {
		if i > 0 && blocks[i-1].end > blocks[i].begin {
			return true
		}
	}
	return false
}

// roomy returns a copy of a value in which each slice has unused capacity that is not zero.
func roomy[T any](x T) T {
	v := reflect.New(reflect.TypeOf(x)).Elem()
	v.Set(reflect.ValueOf(x))
	makeRoomy(v)
	return v.Interface().(T)
}

func makeRoomy(v reflect.Value) {
	switch v.Kind() {
	case reflect.Struct:
		for i := range v.NumField() {
			makeRoomy(v.Field(i))
		}
	case reflect.Slice:
		l := reflect.MakeSlice(v.Type(), v.Len()+2, v.Len()+2)
		reflect.Copy(l, v)
		for i := range l.Len() {
			if i >= v.Len() {
				stain(l.Index(i))
			}
			makeRoomy(l.Index(i))
		}
		v.Set(l.Slice(0, v.Len()))
	}
}

// stain sets all numbers of a value to one that no result has.
func stain(v reflect.Value) {
	switch v.Kind() {
	case reflect.Struct:
		for i := range v.NumField() {
			stain(v.Field(i))
		}
	case reflect.Int:
		v.SetInt(-77)
	}
}

// wholeText writes a value with the unused capacity of its slices.
func wholeText(x any) string { return fmt.Sprintf("%v", whole(reflect.ValueOf(x))) }

func whole(v reflect.Value) any {
	var parts []any
	switch v.Kind() {
	case reflect.Struct:
		for i := range v.NumField() {
			parts = append(parts, whole(v.Field(i)))
		}
	case reflect.Slice:
		parts = append(parts, v.Len())
		for i := range v.Cap() {
			parts = append(parts, whole(v.Slice(0, v.Cap()).Index(i)))
		}
	default:
		return v.Interface()
	}
	return parts
}

// TestMemoryChecks is about the functions above: the tests below would find nothing without them.
func TestMemoryChecks(t *testing.T) {
	e := roomy(busyEngine())
	if engineDump(e) != engineDump(busyEngine()) || sharesMemory(e) || !sharesMemory(e, e) || sharesMemory(e, roomy(e)) {
		t.Fatal("a roomy copy shares memory, or differs")
	}
	before := wholeText(e)
	for _, change := range []func(){
		func() { e.Active[1].Rows[1].Values[0]++ },
		func() { e.Active[:4][3].Query.Id++ },
		func() { clear(e.Store.Segments[0][3:6][2].Values[:1]) },
		func() { e.Ledger[0].Ids[:3][2] = 0 },
	} {
		change()
		if text := wholeText(e); text == before {
			t.Error("a change does not show")
		} else {
			before = text
		}
	}
	one := []impl.Row{row(1, 1, 2, 3)}
	if !sharesMemory(one, one[:0]) || !sharesMemory(one, one[0].Values[1:2]) || sharesMemory(one, manyRows(1)) || !sharesMemory(manyRows(2)) {
		t.Error("shared memory is not found")
	}
}

// TestEnginesAreLeftAlone looks at the arguments, their unused capacity included, and at what they have in common with the results.
func TestEnginesAreLeftAlone(t *testing.T) {
	broken := busyEngine()
	broken.Ledger[0].Base = 9
	engines := []impl.Engine{busyEngine(), engineOn(smallStore()), broken, {}}
	for _, plain := range engines {
		e, s, q := roomy(plain), roomy(smallStore()), roomy(query(7, 1, cond(1, 2, 3)))
		old, order, badOrder := roomy(query(5, 1, cond(1, 2, 3))), roomy([]int{1, 2, 0}), roomy([]int{1, 1, 0})
		updates := []impl.Update{roomy(insertOf(row(8, 1, 2, 3))), roomy(insertOf(row(1, 1, 2, 3))), roomy(deleteOf(2)), roomy(setTo(1, 0, 7))}
		arguments := []any{e, s, q, old, order, badOrder, updates}
		texts := func() string {
			text := ""
			for _, x := range arguments {
				text += wholeText(x)
			}
			return text
		}
		before := texts()
		var results []impl.Engine
		keep := func(x impl.Engine, ok bool) { results = append(results, x) }
		keep(impl.NewEngine(s))
		keep(impl.AdmitQuery(e, q, 3))
		keep(impl.AdmitQuery(e, old, 3))
		for _, id := range []int{2, 5, 20, 9} {
			keep(impl.CancelQuery(e, id))
		}
		for _, u := range updates {
			keep(impl.UpdateEngine(e, u))
		}
		keep(impl.SetOrder(e, order))
		keep(impl.SetOrder(e, badOrder))
		impl.IsEngine(e)
		impl.FindActive(e, 5)
		impl.EqualEngines(e, plain)
		if texts() != before {
			t.Fatalf("an argument changed: %s, was %s", texts(), before)
		}
		for i, x := range results {
			if sharesMemory(append([]any{x}, arguments...)...) {
				t.Errorf("the result %d shares memory with an argument, or with itself: %s", i, engineDump(x))
			}
		}
	}
}

// TestEnginesShareNothing makes engines from lists that are one and the same, and looks at the memory of the results.
func TestEnginesShareNothing(t *testing.T) {
	values := []int{0, 1, 2}
	rows := []impl.Row{{Id: 1, Values: values}, {Id: 2, Values: values}}
	versions := []impl.Version{{Id: 1, Values: values, Died: -1}, {Id: 2, Values: values, Died: -1}}
	e := impl.Engine{Store: storeOf(0, versions[:1], versions[1:], nil), Order: values}
	for id := range 3 {
		e.Active = append(e.Active, impl.Active{Query: impl.Query{Id: id, Out: values}, Todo: values, Rows: rows})
		e.Done = append(e.Done, impl.Finished{Query: impl.Query{Id: id, Out: values}, Rows: rows})
		e.Ledger = append(e.Ledger, impl.Charge{Base: 2, Ids: values, Tenants: values, Rows: values})
	}
	if !impl.IsEngine(e) {
		t.Fatalf("IsEngine = false of %s", engineDump(e))
	}
	check := func(what string) func(x impl.Engine, ok bool) {
		return func(x impl.Engine, ok bool) {
			t.Helper()
			if !ok || sharesMemory(x) || sharesMemory(x, values) {
				t.Errorf("%s = %v, and shares memory: %s", what, ok, engineDump(x))
			}
		}
	}
	check("NewEngine")(impl.NewEngine(e.Store))
	check("AdmitQuery")(impl.AdmitQuery(e, impl.Query{Id: 3, Out: values}, 0))
	check("CancelQuery")(impl.CancelQuery(e, 0))
	check("CancelQuery")(impl.CancelQuery(e, 1))
	check("CancelQuery")(impl.CancelQuery(e, 2))
	check("UpdateEngine")(impl.UpdateEngine(e, setTo(1, 0, 5)))
	check("UpdateEngine")(impl.UpdateEngine(e, insertOf(impl.Row{Id: 9, Values: values})))
	check("SetOrder")(impl.SetOrder(e, values))
	for _, x := range changedEngines() {
		x.Order = values
		x.Ledger = append(x.Ledger, impl.Charge{Ids: values, Rows: values})
		got, _ := impl.SetOrder(x, values)
		none, ok := impl.SetOrder(x, nil)
		if ok || sharesMemory(got, values) || sharesMemory(none, values) || sharesMemory(none) {
			t.Errorf("SetOrder of no order = %v, and shares memory: %s", ok, engineDump(none))
		}
	}
}
