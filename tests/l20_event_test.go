package tests

import (
	"fmt"
	"math"
	"strconv"
	"strings"
	"testing"

	"loop.example/g01986/impl"
)

func admission(q impl.Query, limit int) impl.Event {
	return impl.Event{Kind: 1, Query: q, Limit: limit}
}

func cancellation(id int) impl.Event { return impl.Event{Kind: 2, Id: id} }

func updating(u impl.Update) impl.Event { return impl.Event{Kind: 3, Update: u} }

func stepping(steps int) impl.Event { return impl.Event{Kind: 4, Steps: steps} }

// eventDump writes any event without the empty forms of a list being different.
func eventDump(x impl.Event) string {
	return fmt.Sprintf("kind %d query {%s} limit %d id %d update {%s} steps %d", x.Kind, queryDump(x.Query), x.Limit, x.Id, updateDump(x.Update), x.Steps)
}

// goodEvents are valid, with numbers at the limits among them.
func goodEvents() []impl.Event {
	empty := admission(query(3, 1), 4)
	empty.Query.Conds = []impl.Cond{}
	empty.Update.Row.Values = []int{}
	l := []impl.Event{empty}
	for i, q := range goodQueries() {
		l = append(l, admission(q, i%33))
	}
	for id := range 24 {
		l = append(l, cancellation(id))
	}
	for _, u := range goodUpdates() {
		l = append(l, updating(u))
	}
	for steps := 1; steps <= 100; steps++ {
		l = append(l, stepping(steps))
	}
	return l
}

// badEvents are events that no function takes for valid, most of them for one reason alone.
func badEvents() []impl.Event {
	l := []impl.Event{{}}
	some := []impl.Event{admission(query(2, 1), 3), cancellation(0), cancellation(5), updating(deleteOf(1)), updating(insertOf(row(9, 1, 2, 3))), stepping(1), stepping(100)}
	for _, kind := range []int{-1, 0, 5, 6, 1<<32 + 1, math.MinInt, math.MaxInt} {
		for _, x := range some {
			x.Kind = kind
			l = append(l, x)
		}
	}
	// A part that the kind does not have.
	for _, x := range some {
		for _, n := range []int{1, -1, 1 << 32} {
			for i, field := range []*int{&x.Limit, &x.Id, &x.Steps, &x.Update.Kind, &x.Update.Field, &x.Update.Value, &x.Update.Row.Id, &x.Query.Id, &x.Query.Tenant} {
				belongs := x.Kind == 1 && (i == 0 || i > 6) || x.Kind == 2 && i == 1 || x.Kind == 4 && i == 2 || x.Kind == 3 && i > 2 && i < 7
				if old := *field; !belongs {
					*field = n
					l = append(l, x)
					*field = old
				}
			}
		}
		for i := range 3 {
			y := x
			switch {
			case i == 0 && x.Kind != 1:
				y.Query.Out = []int{0}
			case i == 1 && x.Kind != 1:
				y.Query.Conds = []impl.Cond{{}}
			case i == 2 && x.Kind != 3:
				y.Update.Row.Values = []int{0}
			default:
				continue
			}
			l = append(l, y)
		}
	}
	for _, q := range badQueries() {
		l = append(l, admission(q, 3))
	}
	for _, limit := range numbersAround(32) {
		l = append(l, admission(query(3, 1), limit))
	}
	for _, id := range numbersAround(23) {
		l = append(l, cancellation(id))
	}
	for _, u := range badUpdates() {
		l = append(l, updating(u))
	}
	for _, steps := range append(numbersAround(100), 0) {
		l = append(l, stepping(steps))
	}
	return l
}

// eventTextOf is an independent statement of FormatEvent for valid events.
func eventTextOf(x impl.Event) string {
	switch x.Kind {
	case 1:
		return fmt.Sprintf("admit %d %s", x.Limit, queryTextOf(x.Query))
	case 2:
		return fmt.Sprintf("cancel %d", x.Id)
	case 3:
		return updateTextOf(x.Update)
	}
	return fmt.Sprintf("step %d", x.Steps)
}

// numberUpTo reads a number from least to most, written without leading zeros.
func numberUpTo(s string, least, most int) (int, bool) {
	n, err := strconv.Atoi(s)
	return n, err == nil && strconv.Itoa(n) == s && least <= n && n <= most
}

// readEvent is an independent statement of ParseEvent.
func readEvent(s string) (impl.Event, bool) {
	words := strings.Split(s, " ")
	if len(words) > 2 && words[0] == "admit" {
		limit, okLimit := numberUpTo(words[1], 0, 32)
		q, okQuery := readQuery(strings.Join(words[2:], " "))
		if okLimit && okQuery {
			return admission(q, limit), true
		}
	} else if id, ok := numberUpTo(words[len(words)-1], 0, 23); ok && len(words) == 2 && words[0] == "cancel" {
		return cancellation(id), true
	} else if steps, ok := numberUpTo(words[len(words)-1], 1, 100); ok && len(words) == 2 && words[0] == "step" {
		return stepping(steps), true
	} else if u, ok := readUpdate(s); ok {
		return updating(u), true
	}
	return impl.Event{}, false
}

// checkParseEvent holds ParseEvent of one string against readEvent.
func checkParseEvent(t *testing.T, s string) {
	t.Helper()
	want, wantOk := readEvent(s)
	if got, ok := impl.ParseEvent(s); ok != wantOk || eventDump(got) != eventDump(want) {
		t.Fatalf("ParseEvent(%q) = %s, %v, want %s, %v", s, eventDump(got), ok, eventDump(want), wantOk)
	}
}

func TestEventConstants(t *testing.T) {
	if impl.EventAdmit != 1 || impl.EventCancel != 2 || impl.EventUpdate != 3 || impl.EventStep != 4 {
		t.Error(impl.EventAdmit, impl.EventCancel, impl.EventUpdate, impl.EventStep)
	}
}

func TestIsEvent(t *testing.T) {
	for _, x := range goodEvents() {
		if !impl.IsEvent(x) {
			t.Errorf("IsEvent(%s) = false", eventDump(x))
		}
	}
	for _, x := range badEvents() {
		if impl.IsEvent(x) {
			t.Errorf("IsEvent(%s) = true", eventDump(x))
		}
	}
}

// TestParseEventReadsTexts is the part of guarantee 2 that ParseEvent has: it reads the texts of all valid events.
func TestParseEventReadsTexts(t *testing.T) {
	for _, x := range goodEvents() {
		text := eventTextOf(x)
		if got, ok := impl.ParseEvent(text); !ok || eventDump(got) != eventDump(x) || !impl.IsEvent(got) {
			t.Errorf("ParseEvent(%q) = %s, %v, want %s", text, eventDump(got), ok, eventDump(x))
		}
		checkParseEvent(t, text)
	}
}

func TestParseEventRefuses(t *testing.T) {
	for _, s := range []string{
		"", " ", "admit", "cancel", "step", "admit ", "cancel ", "step ", "1", "none",
		"admit 0", "admit 0 ", "admit q3 t1 out 0", "admit 0 q3", "admit 0 q3 t1", "admit 0 q3 t1 out", "admit 0 q3 t1 out 3", "admit 0 q24 t1 out 0",
		"admit 33 q3 t1 out 0", "admit -1 q3 t1 out 0", "admit 00 q3 t1 out 0", "admit 01 q3 t1 out 0", "admit +1 q3 t1 out 0", "admit 4294967296 q3 t1 out 0",
		"admit  0 q3 t1 out 0", "admit 0  q3 t1 out 0", " admit 0 q3 t1 out 0", "admit 0 q3 t1 out 0 ", "admit 0 q3 t1 out 0\n", "admit\t0 q3 t1 out 0",
		"admit q3 t1 out 0 0", "admit 0 q3 t4 out 0", "admit 0 q3 t1 f0 5..4 out 0", "admit 0 1 q3 t1 out 0", "Admit 0 q3 t1 out 0", "admit0 q3 t1 out 0",
		"cancel 24", "cancel -1", "cancel -0", "cancel 00", "cancel 01", "cancel 1 ", "cancel  1", " cancel 1", "cancel 1 2", "cancel q1", "Cancel 1", "cancel1", "cancel 4294967296",
		"step 0", "step 101", "step -1", "step 01", "step 1 ", "step  1", " step 1", "step 1 1", "step one", "Step 1", "step1", "steps 1", "step 4294967297",
		"insert 1", "insert 1:1,2,100", "delete", "delete 1000", "delete 1 ", "set 1 f3 1", "set 1 f0 100", "update delete 1", "q3 t1 out 0", "run 1", "cancel\xff 1",
	} {
		if got, ok := impl.ParseEvent(s); ok || eventDump(got) != eventDump(impl.Event{}) {
			t.Errorf("ParseEvent(%q) = %s, %v", s, eventDump(got), ok)
		}
		checkParseEvent(t, s)
	}
}

// TestParseEventOfChangedTexts changes each text at each place.
func TestParseEventOfChangedTexts(t *testing.T) {
	pieces := []string{" ", "  ", "0", "1", "9", "-", "+", ":", ",", "f", "q", "\n", "\x00", "\xff", "é", "admit ", "cancel ", "step ", "delete ", "set "}
	for _, text := range []string{"admit 0 q3 t1 f0 2..4 out 0", "admit 32 q23 t0 out 1,0", "cancel 0", "cancel 23", "step 1", "step 100", "insert 5:1,2,3", "delete 7", "set 1 f0 9"} {
		for i := range len(text) + 1 {
			for _, piece := range append(pieces, "") {
				for k := i; k <= len(text); k++ {
					checkParseEvent(t, text[:i]+piece+text[k:])
				}
			}
		}
	}
}

// TestApplyEvent holds ApplyEvent against the functions that it performs.
func TestApplyEvent(t *testing.T) {
	succeeded := map[int]int{}
	for i, e := range goodEngines() {
		events := []impl.Event{admission(query(6, 1), 0), admission(query(i%24, 2, cond(1, 0, 5)), 32), admission(query(23, 0), 1), stepping(1), stepping(2 + i%9), stepping(100)}
		for id := range 24 {
			events = append(events, cancellation(id))
		}
		for _, u := range updatesOn(e.Store) {
			if isUpdateOf(u) {
				events = append(events, updating(u))
			}
		}
		for _, x := range events {
			var want impl.Engine
			var wantOk bool
			switch x.Kind {
			case 1:
				want, wantOk = admittedTo(e, x.Query, x.Limit)
			case 2:
				want, wantOk = cancelledIn(e, x.Id)
			case 3:
				want, wantOk = engineUpdatedBy(e, x.Update)
			case 4:
				// It succeeds even if no step can be made.
				want, wantOk = steppedTimes(e, x.Steps), true
			}
			got, ok := impl.ApplyEvent(e, x)
			checkEngine(t, "ApplyEvent of "+eventDump(x), got, ok, want, wantOk)
			if ok {
				succeeded[x.Kind]++
			}
		}
	}
	if succeeded[1] < 50 || succeeded[2] < 50 || succeeded[3] < 50 || succeeded[4] < 50 {
		t.Errorf("too few events succeeded: %v", succeeded)
	}
}

func TestApplyEventRefuses(t *testing.T) {
	for _, x := range badEvents() {
		got, ok := impl.ApplyEvent(busyEngine(), x)
		checkEngine(t, "ApplyEvent of "+eventDump(x), got, ok, busyEngine(), false)
	}
	for _, e := range refusedOf() {
		for _, x := range []impl.Event{admission(query(6, 1), 0), cancellation(2), updating(deleteOf(1)), updating(insertOf(row(9, 1, 2, 3))), stepping(1), stepping(100), {}} {
			got, ok := impl.ApplyEvent(e, x)
			checkEngine(t, "ApplyEvent of "+eventDump(x), got, ok, e, false)
		}
	}
}

// TestEventsAreLeftAlone looks at the arguments, their unused capacity included, and at what they have in common with the results.
func TestEventsAreLeftAlone(t *testing.T) {
	broken := busyEngine()
	broken.Cursor = 3
	for _, plain := range []impl.Engine{busyEngine(), broken} {
		for _, x := range []impl.Event{admission(query(6, 1, cond(0, 1, 2)), 3), admission(query(2, 1), 0), cancellation(5), cancellation(6), updating(insertOf(row(9, 1, 2, 3))), updating(setTo(1, 0, 8)), stepping(1), stepping(7), {}} {
			e, x := roomy(plain), roomy(x)
			before := wholeText(e) + wholeText(x)
			got, _ := impl.ApplyEvent(e, x)
			impl.IsEvent(x)
			if text := wholeText(e) + wholeText(x); text != before {
				t.Fatalf("an argument changed: %s, was %s", text, before)
			}
			if sharesMemory(got, e, x) {
				t.Errorf("ApplyEvent of %s shares memory: %s", eventDump(x), engineDump(got))
			}
		}
	}
	for _, text := range []string{"admit 0 q3 t1 f0 2..4 f1 0..1 out 0,1", "insert 5:1,2,3"} {
		a, _ := impl.ParseEvent(text)
		b, _ := impl.ParseEvent(text)
		if sharesMemory(a, b) {
			t.Errorf("ParseEvent(%q) shares memory with an earlier result", text)
		}
	}
}
