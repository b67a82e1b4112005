package tests

import (
	"fmt"
	"math"
	"regexp"
	"slices"
	"strconv"
	"strings"
	"testing"

	"loop.example/g01986/impl"
)

func insertOf(r impl.Row) impl.Update { return impl.Update{Kind: 1, Row: r} }

func deleteOf(id int) impl.Update { return impl.Update{Kind: 2, Row: row(id)} }

func setTo(id, field, value int) impl.Update {
	return impl.Update{Kind: 3, Row: row(id), Field: field, Value: value}
}

// updateDump writes any update without the empty forms of a list being different.
func updateDump(u impl.Update) string {
	return fmt.Sprintf("kind %d row %s field %d value %d", u.Kind, rowText(u.Row), u.Field, u.Value)
}

// goodUpdates are valid, with numbers at the limits among them.
func goodUpdates() []impl.Update {
	l := []impl.Update{{Kind: 2, Row: impl.Row{Id: 4, Values: []int{}}}}
	for _, r := range []impl.Row{row(0, 0, 0, 0), row(1, 1, 2, 3), row(2, 0, 99, 10), row(7, 98, 0, 0), row(999, 99, 99, 99), row(100, 10, 9, 90)} {
		l = append(l, insertOf(r))
	}
	for _, id := range []int{0, 1, 2, 3, 7, 9, 10, 99, 100, 998, 999} {
		l = append(l, deleteOf(id))
		for field := range 3 {
			for _, value := range []int{0, 1, 9, 10, 98, 99} {
				l = append(l, setTo(id, field, value))
			}
		}
	}
	return l
}

// badUpdates are updates that no function takes for valid, most of them for one reason alone.
func badUpdates() []impl.Update {
	l := []impl.Update{{}}
	for _, kind := range []int{-3, -1, 0, 4, 5, 1<<32 + 1, math.MinInt, math.MaxInt} {
		for _, u := range []impl.Update{insertOf(row(1, 1, 2, 3)), deleteOf(1), setTo(1, 0, 0), setTo(1, 2, 99)} {
			u.Kind = kind
			l = append(l, u)
		}
	}
	for _, r := range badRows {
		l = append(l, insertOf(r))
	}
	for _, id := range append(numbersAround(999), 1000, 1<<32) {
		l = append(l, deleteOf(id), setTo(id, 0, 0), setTo(id, 2, 99), insertOf(row(id, 1, 2, 3)))
	}
	for _, values := range [][]int{{0}, {5}, {0, 0}, {0, 0, 0}, {1, 2, 3}, {0, 0, 0, 0}, {1, 2, 3, 4}, {-1}, make([]int, 50)} {
		for _, u := range []impl.Update{deleteOf(1), setTo(1, 0, 0), setTo(1, 2, 99)} {
			u.Row.Values = values
			l = append(l, u)
		}
	}
	for _, n := range []int{-1, 1, 2, 3, 99, 1 << 32, math.MinInt, math.MaxInt} {
		for _, u := range []impl.Update{insertOf(row(1, 1, 2, 3)), deleteOf(1)} {
			withField, withValue := u, u
			withField.Field, withValue.Value = n, n
			l = append(l, withField, withValue)
		}
	}
	for _, n := range []int{-1, -2, 3, 4, 99, 1 << 32, math.MinInt, math.MaxInt} {
		l = append(l, setTo(1, n, 5))
	}
	for _, n := range []int{-1, -2, 100, 101, 256, 1 << 32, math.MinInt, math.MaxInt} {
		l = append(l, setTo(1, 1, n))
	}
	return l
}

// isUpdateOf is an independent statement of IsUpdate.
func isUpdateOf(u impl.Update) bool {
	hasIdAlone := 0 <= u.Row.Id && u.Row.Id <= 999 && len(u.Row.Values) == 0
	switch u.Kind {
	case 1:
		return isRowOf(u.Row) && u.Field == 0 && u.Value == 0
	case 2:
		return hasIdAlone && u.Field == 0 && u.Value == 0
	case 3:
		return hasIdAlone && 0 <= u.Field && u.Field < 3 && 0 <= u.Value && u.Value <= 99
	}
	return false
}

// updateTextOf is an independent statement of FormatUpdate for valid updates.
func updateTextOf(u impl.Update) string {
	switch u.Kind {
	case 1:
		return fmt.Sprintf("insert %d:%d,%d,%d", u.Row.Id, u.Row.Values[0], u.Row.Values[1], u.Row.Values[2])
	case 2:
		return fmt.Sprintf("delete %d", u.Row.Id)
	}
	return fmt.Sprintf("set %d f%d %d", u.Row.Id, u.Field, u.Value)
}

var (
	deleteUpdateForm = regexp.MustCompile(`\Adelete (0|[1-9][0-9]{0,2})\z`)
	setUpdateForm    = regexp.MustCompile(`\Aset (0|[1-9][0-9]{0,2}) f([0-2]) (0|[1-9][0-9]?)\z`)
)

// readUpdate is an independent statement of ParseUpdate.
func readUpdate(s string) (impl.Update, bool) {
	if text, found := strings.CutPrefix(s, "insert "); found {
		r, ok := readRow(text)
		if !ok {
			return impl.Update{}, false
		}
		return insertOf(r), true
	}
	if parts := deleteUpdateForm.FindStringSubmatch(s); parts != nil {
		id, _ := strconv.Atoi(parts[1])
		return deleteOf(id), true
	}
	if parts := setUpdateForm.FindStringSubmatch(s); parts != nil {
		var n [3]int
		for i := range n {
			n[i], _ = strconv.Atoi(parts[i+1])
		}
		return setTo(n[0], n[1], n[2]), true
	}
	return impl.Update{}, false
}

// checkParseUpdate holds ParseUpdate of one string against readUpdate.
func checkParseUpdate(t *testing.T, s string) {
	t.Helper()
	want, wantOk := readUpdate(s)
	if got, ok := impl.ParseUpdate(s); ok != wantOk || updateDump(got) != updateDump(want) {
		t.Fatalf("ParseUpdate(%q) = %s, %v, want %s, %v", s, updateDump(got), ok, updateDump(want), wantOk)
	}
}

// cloneStore returns a store in memory of its own.
func cloneStore(s impl.Store) impl.Store {
	copied := storeOf(s.Now)
	for _, l := range s.Segments {
		var versions []impl.Version
		for _, v := range l {
			versions = append(versions, lived(v.Born, v.Died, v.Id, slices.Clone(v.Values)...))
		}
		copied.Segments = append(copied.Segments, versions)
	}
	return copied
}

// updatedBy is an independent statement of ApplyUpdate for valid stores.
func updatedBy(s impl.Store, u impl.Update) (impl.Store, bool) {
	if !isUpdateOf(u) || s.Now >= 100000 {
		return s, false
	}
	x := cloneStore(s)
	x.Now++
	var values []int
	alive, placed := false, u.Kind == 2
	for _, l := range x.Segments {
		for i, v := range l {
			if v.Id == u.Row.Id && v.Died == -1 {
				alive, values, l[i].Died = true, slices.Clone(v.Values), x.Now
			}
		}
	}
	if u.Kind == 1 {
		values = slices.Clone(u.Row.Values)
	} else if u.Kind == 3 && alive {
		values[u.Field] = u.Value
	}
	for i, l := range x.Segments {
		if !placed && len(l) <= 3 {
			placed, x.Segments[i] = true, append(l, lived(x.Now, -1, u.Row.Id, values...))
		}
	}
	if alive == (u.Kind == 1) || !placed {
		return s, false
	}
	return x, true
}

// reclaimedFor is an independent statement of ReclaimStore for valid stores.
func reclaimedFor(s impl.Store, keep []int) (impl.Store, int) {
	x, count := storeOf(s.Now), 0
	for _, l := range s.Segments {
		var rest []impl.Version
		for _, v := range l {
			needed := v.Died == -1
			for _, time := range keep {
				needed = needed || isSeen(v, time)
			}
			if needed {
				rest = append(rest, v)
			} else {
				count++
			}
		}
		x.Segments = append(x.Segments, rest)
	}
	return x, count
}

func TestUpdateConstants(t *testing.T) {
	if impl.UpdateInsert != 1 || impl.UpdateDelete != 2 || impl.UpdateSet != 3 {
		t.Error(impl.UpdateInsert, impl.UpdateDelete, impl.UpdateSet)
	}
}

func TestIsUpdate(t *testing.T) {
	for _, u := range goodUpdates() {
		if !impl.IsUpdate(u) {
			t.Errorf("IsUpdate(%s) = false", updateDump(u))
		}
	}
	for _, u := range badUpdates() {
		if impl.IsUpdate(u) {
			t.Errorf("IsUpdate(%s) = true", updateDump(u))
		}
	}
}

// TestIsUpdateOfAllParts puts all kinds, rows, fields and values from a few together.
func TestIsUpdateOfAllParts(t *testing.T) {
	rows := append(slices.Clone(badRows), row(0), row(1), row(999), row(1, 1, 2, 3), row(0, 0, 0, 0), row(-1), row(1000))
	for kind := -1; kind <= 5; kind++ {
		for _, r := range rows {
			for _, field := range []int{-1, 0, 1, 2, 3} {
				for _, value := range []int{-1, 0, 1, 98, 99, 100} {
					u := impl.Update{Kind: kind, Row: r, Field: field, Value: value}
					if got := impl.IsUpdate(u); got != isUpdateOf(u) {
						t.Errorf("IsUpdate(%s) = %v", updateDump(u), got)
					}
				}
			}
		}
	}
}

func TestFormatUpdate(t *testing.T) {
	for _, c := range []struct {
		u    impl.Update
		want string
	}{
		{insertOf(row(5, 1, 2, 3)), "insert 5:1,2,3"},
		{insertOf(row(0, 0, 0, 0)), "insert 0:0,0,0"},
		{insertOf(row(999, 99, 99, 99)), "insert 999:99,99,99"},
		{deleteOf(0), "delete 0"},
		{deleteOf(999), "delete 999"},
		{setTo(1, 0, 9), "set 1 f0 9"},
		{setTo(0, 0, 0), "set 0 f0 0"},
		{setTo(999, 2, 99), "set 999 f2 99"},
	} {
		if got := impl.FormatUpdate(c.u); got != c.want {
			t.Errorf("FormatUpdate(%s) = %q, want %q", updateDump(c.u), got, c.want)
		}
	}
	for _, u := range badUpdates() {
		if got := impl.FormatUpdate(u); got != "" {
			t.Errorf("FormatUpdate(%s) = %q", updateDump(u), got)
		}
	}
}

// TestUpdatesAreReadBack is this chapter's part of guarantee 2: updates are parsed from their texts.
func TestUpdatesAreReadBack(t *testing.T) {
	for _, u := range goodUpdates() {
		text := impl.FormatUpdate(u)
		if text != updateTextOf(u) {
			t.Errorf("FormatUpdate(%s) = %q, want %q", updateDump(u), text, updateTextOf(u))
		}
		if got, ok := impl.ParseUpdate(text); !ok || updateDump(got) != updateDump(u) {
			t.Errorf("ParseUpdate(%q) = %s, %v, want %s", text, updateDump(got), ok, updateDump(u))
		}
	}
	for id := range 1000 {
		for _, u := range []impl.Update{insertOf(row(id, id%100, id/10, 7)), deleteOf(id), setTo(id, id%3, id*7%100)} {
			if got, ok := impl.ParseUpdate(impl.FormatUpdate(u)); !ok || updateDump(got) != updateDump(u) {
				t.Errorf("ParseUpdate of FormatUpdate(%s) = %s, %v", updateDump(u), updateDump(got), ok)
			}
		}
	}
	for _, r := range goodRows() {
		if got, ok := impl.ParseUpdate("insert " + impl.FormatRow(r)); !ok || updateDump(got) != updateDump(insertOf(r)) {
			t.Errorf("ParseUpdate of insert and %s = %s, %v", rowText(r), updateDump(got), ok)
		}
	}
}

func TestParseUpdateRefuses(t *testing.T) {
	for _, s := range []string{
		"", " ", "insert", "delete", "set", "insert ", "delete ", "set ", "1", "1:1,2,3", "f0",
		"insert 1", "insert 1:1,2", "insert 1:1,2,3,4", "insert 1:1,2,100", "insert 1:-1,2,3", "insert 1000:1,2,3", "insert -1:1,2,3",
		"insert 1:1,2,3 ", " insert 1:1,2,3", "insert  1:1,2,3", "insert 1:1, 2,3", "insert 1: 1,2,3", "insert\t1:1,2,3", "insert 1:1,2,3\n",
		"insert 01:1,2,3", "insert 1:01,2,3", "insert +1:1,2,3", "insert 1:1,2,3 f0 1", "insert 1:1,2,3 0 0", "insert1:1,2,3", "Insert 1:1,2,3", "INSERT 1:1,2,3",
		"delete -1", "delete -0", "delete 00", "delete 01", "delete 1000", "delete 9999999999", "delete 1 ", "delete  1", " delete 1", "delete 1\n",
		"delete 1:1,2,3", "delete 1 2", "delete q1", "delete f1", "delete one", "delete1", "Delete 1", "delete 1 f0 1", "delete 18446744073709551617",
		"set 1", "set 1 f0", "set 1 f0 ", "set 1 f0 1 ", "set 1 f0 1 1", "set  1 f0 1", "set 1  f0 1", "set 1 f0  1", "set 1 f 0 1", " set 1 f0 1",
		"set 1 0 1", "set 1 f3 1", "set 1 f-1 1", "set 1 f00 1", "set 1 f01 1", "set 1 ff0 1", "set 1 F0 1", "set 1 q0 1", "set 1 f0 100", "set 1 f0 -1",
		"set 1 f0 01", "set 1 f0 f1", "set -1 f0 1", "set 1000 f0 1", "set 01 f0 1", "set 1:1,2,3 f0 1", "set f0 1 1", "set 1 1 f0", "Set 1 f0 1", "set 1 f0 1\x00",
		"remove 1", "put 1 f0 1", "update 1 f0 1", "add 1:1,2,3", "none", "insert set 1 f0 1", "delete delete 1", "set insert 1:1,2,3",
		"delete 1\xff", "d\xc3\xa9lete 1", "insert 1:1,2,3\x00", "insert 1\xef\xbc\x9a1,2,3", "delete \xd9\xa1",
	} {
		if got, ok := impl.ParseUpdate(s); ok || updateDump(got) != updateDump(impl.Update{}) {
			t.Errorf("ParseUpdate(%q) = %s, %v", s, updateDump(got), ok)
		}
		checkParseUpdate(t, s)
	}
}

// TestParseUpdateOfChangedTexts changes each text at each place.
func TestParseUpdateOfChangedTexts(t *testing.T) {
	pieces := []string{" ", "  ", "0", "1", "9", "-", "+", ":", ",", "f", "f1", "q", "s", "\n", "\x00", "\xff", "é", "f0 ", "set ", "insert ", "delete "}
	for _, text := range []string{"insert 5:1,2,3", "insert 999:99,99,99", "insert 0:0,0,0", "delete 7", "delete 0", "delete 999", "set 1 f0 9", "set 999 f2 99", "set 0 f1 0"} {
		for i := range len(text) + 1 {
			checkParseUpdate(t, text[:i])
			checkParseUpdate(t, text[i:])
			for _, piece := range pieces {
				checkParseUpdate(t, text[:i]+piece+text[i:])
				for k := i + 1; k <= len(text); k++ {
					checkParseUpdate(t, text[:i]+piece+text[k:])
				}
			}
			for k := i + 1; k <= len(text); k++ {
				checkParseUpdate(t, text[:i]+text[k:])
				checkParseUpdate(t, text[:k]+text[i:])
			}
		}
	}
}

// TestParseUpdateOfAllWords puts all lists of at most five words from a few together.
func TestParseUpdateOfAllWords(t *testing.T) {
	words := []string{"insert", "delete", "set", "", "1", "99", "1000", "f0", "f3", "5:1,2,3"}
	numbers := make([]int, len(words))
	for i := range numbers {
		numbers[i] = i
	}
	for _, l := range listsOf(numbers, 5) {
		texts := make([]string, len(l))
		for i, n := range l {
			texts[i] = words[n]
		}
		checkParseUpdate(t, strings.Join(texts, " "))
	}
}

func TestApplyUpdate(t *testing.T) {
	s := storeOf(5,
		[]impl.Version{lived(0, 3, 1, 1, 0, 0), lived(3, -1, 1, 1, 1, 1), lived(0, 5, 2, 2, 2, 2)},
		[]impl.Version{lived(4, -1, 3, 3, 3, 3)})
	for _, c := range []struct {
		why  string
		u    impl.Update
		want string
	}{
		{"a new row goes to the first segment with room", insertOf(row(9, 7, 8, 9)), "now 6; 4: 1 [1 0 0] 0-3 1 [1 1 1] 3--1 2 [2 2 2] 0-5 9 [7 8 9] 6--1; 1: 3 [3 3 3] 4--1"},
		{"a row that died may come again", insertOf(row(2, 0, 0, 0)), "now 6; 4: 1 [1 0 0] 0-3 1 [1 1 1] 3--1 2 [2 2 2] 0-5 2 [0 0 0] 6--1; 1: 3 [3 3 3] 4--1"},
		{"the alive version of several dies", deleteOf(1), "now 6; 3: 1 [1 0 0] 0-3 1 [1 1 1] 3-6 2 [2 2 2] 0-5; 1: 3 [3 3 3] 4--1"},
		{"a row of the last segment dies", deleteOf(3), "now 6; 3: 1 [1 0 0] 0-3 1 [1 1 1] 3--1 2 [2 2 2] 0-5; 1: 3 [3 3 3] 4-6"},
		{"the first field is set", setTo(3, 0, 99), "now 6; 4: 1 [1 0 0] 0-3 1 [1 1 1] 3--1 2 [2 2 2] 0-5 3 [99 3 3] 6--1; 1: 3 [3 3 3] 4-6"},
		{"the last field is set", setTo(3, 2, 0), "now 6; 4: 1 [1 0 0] 0-3 1 [1 1 1] 3--1 2 [2 2 2] 0-5 3 [3 3 0] 6--1; 1: 3 [3 3 3] 4-6"},
		{"in the segment of the old version", setTo(1, 1, 5), "now 6; 4: 1 [1 0 0] 0-3 1 [1 1 1] 3-6 2 [2 2 2] 0-5 1 [1 5 1] 6--1; 1: 3 [3 3 3] 4--1"},
		{"to the value that it has", setTo(1, 1, 1), "now 6; 4: 1 [1 0 0] 0-3 1 [1 1 1] 3-6 2 [2 2 2] 0-5 1 [1 1 1] 6--1; 1: 3 [3 3 3] 4--1"},
	} {
		if got, ok := impl.ApplyUpdate(s, c.u); !ok || storeDump(got) != c.want {
			t.Errorf("%s: ApplyUpdate of %q = %s, %v, want %s", c.why, updateTextOf(c.u), storeDump(got), ok, c.want)
		}
	}
	for _, u := range []impl.Update{insertOf(row(1, 1, 1, 1)), insertOf(row(3, 0, 0, 0)), deleteOf(2), deleteOf(0), deleteOf(999), setTo(2, 0, 1), setTo(4, 0, 1)} {
		if got, ok := impl.ApplyUpdate(s, u); ok || storeDump(got) != storeDump(s) {
			t.Errorf("ApplyUpdate of %q = %s, %v, want %s", updateTextOf(u), storeDump(got), ok, storeDump(s))
		}
	}
}

// updatesOn are updates of all kinds for all rows of a store and for rows that it does not have, and some that are not valid.
func updatesOn(s impl.Store) []impl.Update {
	ids := []int{0, 500, 999}
	for _, l := range s.Segments {
		for _, v := range l {
			ids = append(ids, v.Id)
		}
	}
	l := []impl.Update{{}, setTo(1, 3, 0), insertOf(row(1, 1, 2)), deleteOf(-1)}
	for _, id := range ids {
		l = append(l, insertOf(row(id, id%100, 0, 99)), deleteOf(id), setTo(id, id%3, 77))
	}
	return l
}

// TestApplyUpdateOfStores holds ApplyUpdate against its independent statement, also where the result is valid for the last time.
func TestApplyUpdateOfStores(t *testing.T) {
	succeeded := 0
	for _, s := range goodStores() {
		for _, u := range updatesOn(s) {
			want, wantOk := updatedBy(s, u)
			got, ok := impl.ApplyUpdate(s, u)
			if ok != wantOk || storeDump(got) != storeDump(want) {
				t.Errorf("ApplyUpdate(%s, %s) = %s, %v, want %s, %v", storeDump(s), updateDump(u), storeDump(got), ok, storeDump(want), wantOk)
			}
			if !impl.IsStore(got) {
				t.Errorf("ApplyUpdate(%s, %s) = %s, which is not valid", storeDump(s), updateDump(u), storeDump(got))
			}
			for time := -1; time <= s.Now && ok && time < 40; time++ {
				if before, after := rowsText(impl.RowsAt(s, time)), rowsText(impl.RowsAt(got, time)); before != after {
					t.Errorf("the time %d showed %s, and shows %s after %q", time, before, after, updateTextOf(u))
				}
			}
			if ok {
				succeeded++
			}
		}
	}
	if succeeded < 30 {
		t.Errorf("only %d updates succeeded", succeeded)
	}
}

func TestApplyUpdateRefuses(t *testing.T) {
	refuses := func(s impl.Store, u impl.Update) {
		t.Helper()
		if got, ok := impl.ApplyUpdate(s, u); ok || storeDump(got) != storeDump(s) {
			t.Errorf("ApplyUpdate(%s, %s) = %s, %v", storeDump(s), updateDump(u), storeDump(got), ok)
		}
		if got, n := impl.ApplyUpdates(s, []impl.Update{u, u}); n != 0 || storeDump(got) != storeDump(s) {
			t.Errorf("ApplyUpdates(%s, twice %s) = %s, %d", storeDump(s), updateDump(u), storeDump(got), n)
		}
	}
	for _, s := range goodStores() {
		for _, u := range badUpdates() {
			refuses(s, u)
		}
	}
	for _, s := range badStores() {
		for _, u := range updatesOn(s) {
			refuses(s, u)
		}
		for _, u := range []impl.Update{insertOf(row(800, 1, 2, 3)), deleteOf(8), deleteOf(50), setTo(8, 0, 0)} {
			refuses(s, u)
		}
	}
}

// TestApplyUpdateInTheLastTime goes up to the last time, and one update further.
func TestApplyUpdateInTheLastTime(t *testing.T) {
	l := []impl.Update{insertOf(row(5, 1, 2, 3)), deleteOf(1), setTo(1, 0, 0)}
	for _, u := range l {
		s := storeOf(99999, []impl.Version{lived(0, -1, 1, 1, 1, 1)})
		last, ok := impl.ApplyUpdate(s, u)
		if !ok || last.Now != 100000 || !impl.IsStore(last) {
			t.Errorf("ApplyUpdate of %q before the last time = %s, %v", updateTextOf(u), storeDump(last), ok)
		}
		s.Now = 100000
		for _, again := range append(l, insertOf(row(6, 1, 2, 3))) {
			for _, x := range []impl.Store{last, s} {
				if got, ok := impl.ApplyUpdate(x, again); ok || storeDump(got) != storeDump(x) {
					t.Errorf("ApplyUpdate(%s, %q) in the last time = %s, %v", storeDump(x), updateTextOf(again), storeDump(got), ok)
				}
			}
		}
	}
	got, n := impl.ApplyUpdates(storeOf(99998, nil), []impl.Update{insertOf(row(1, 1, 2, 3)), deleteOf(9), insertOf(row(2, 1, 2, 3)), deleteOf(1), insertOf(row(3, 1, 2, 3))})
	if want := "now 100000; 2: 1 [1 2 3] 99999--1 2 [1 2 3] 100000--1"; n != 2 || storeDump(got) != want {
		t.Errorf("ApplyUpdates up to the last time = %s, %d, want %s", storeDump(got), n, want)
	}
}

// TestRoomForVersions fills segments of all sizes, from one to three of them, and looks which one gets the new version.
func TestRoomForVersions(t *testing.T) {
	for _, sizes := range listsOf([]int{0, 1, 3, 4}, 3) {
		if len(sizes) == 0 {
			continue
		}
		s := storeOf(3, make([][]impl.Version, len(sizes))...)
		for i, size := range sizes {
			for k := range size {
				s.Segments[i] = append(s.Segments[i], living(0, 10*i+k))
			}
		}
		first := slices.IndexFunc(sizes, func(size int) bool { return size < 4 })
		l := []impl.Update{insertOf(row(99, 1, 2, 3))}
		for _, id := range []int{0, 10, 20} {
			if impl.CountVersions(s) > 0 && id/10 < len(sizes) && sizes[id/10] > 0 {
				l = append(l, setTo(id, 1, 50))
			}
		}
		for _, u := range l {
			got, ok := impl.ApplyUpdate(s, u)
			if ok != (first >= 0) {
				t.Errorf("ApplyUpdate of %q with segments of %v versions = %v", updateTextOf(u), sizes, ok)
				continue
			}
			for i, size := range sizes {
				if i == first {
					size++
				}
				if len(got.Segments[i]) != size {
					t.Errorf("ApplyUpdate of %q with segments of %v versions leads to %s", updateTextOf(u), sizes, storeDump(got))
				}
			}
			if first >= 0 {
				if v := got.Segments[first][sizes[first]]; v.Id != u.Row.Id || v.Born != 4 || v.Died != -1 {
					t.Errorf("ApplyUpdate of %q appends %v", updateTextOf(u), v)
				}
			}
		}
	}
}

// TestFullStoreUpdates shows that a dead version takes room until it is reclaimed.
func TestFullStoreUpdates(t *testing.T) {
	s := fullStore()
	for _, u := range []impl.Update{insertOf(row(900, 1, 2, 3)), setTo(0, 0, 5), setTo(37, 2, 5), insertOf(row(0, 1, 2, 3))} {
		if got, ok := impl.ApplyUpdate(s, u); ok || storeDump(got) != storeDump(s) {
			t.Errorf("ApplyUpdate of %q in a full store = %s, %v", updateTextOf(u), storeDump(got), ok)
		}
	}
	x, ok := impl.ApplyUpdate(s, deleteOf(15))
	if !ok || x.Now != 1 || impl.CountVersions(x) != 32 || len(impl.RowsAt(x, 1)) != 31 || len(impl.RowsAt(x, 0)) != 32 {
		t.Fatalf("ApplyUpdate of delete 15 in a full store = %s, %v", storeDump(x), ok)
	}
	if got, ok := impl.ApplyUpdate(x, setTo(37, 2, 5)); ok {
		t.Errorf("there is room for a version without reclaiming: %s", storeDump(got))
	}
	x, n := impl.ReclaimStore(x, nil)
	if n != 1 || impl.CountVersions(x) != 31 {
		t.Fatalf("ReclaimStore = %s, %d", storeDump(x), n)
	}
	x, ok = impl.ApplyUpdate(x, setTo(37, 2, 5))
	if want := lived(2, -1, 37, 37, 2, 5); !ok || len(x.Segments[5]) != 4 || fmt.Sprint(x.Segments[5][3]) != fmt.Sprint(want) {
		t.Errorf("the new version did not come to the segment 5: %s, %v", storeDump(x), ok)
	}
	if _, ok := impl.ApplyUpdate(x, setTo(37, 2, 5)); ok {
		t.Error("the segment 5 has room for two versions")
	}
}

// TestDeathInTheTimeOfBirth is about a row that dies in the time of its birth: no store has one, since each update makes a time of its own.
func TestDeathInTheTimeOfBirth(t *testing.T) {
	for born := range 4 {
		bad := lived(born, born, 1, 1, 2, 3)
		if impl.IsVisible(bad, born) {
			t.Errorf("IsVisible(%v, %d) = true", bad, born)
		}
		for _, s := range []impl.Store{storeOf(3, []impl.Version{bad}), storeOf(3, []impl.Version{living(0, 2), bad}, nil), storeOf(3, nil, []impl.Version{bad, living(born, 1)})} {
			for _, u := range []impl.Update{insertOf(row(1, 1, 2, 3)), insertOf(row(7, 1, 2, 3)), deleteOf(1), deleteOf(2), setTo(1, 0, 9), setTo(2, 0, 9)} {
				if got, ok := impl.ApplyUpdate(s, u); ok || storeDump(got) != storeDump(s) {
					t.Errorf("ApplyUpdate(%s, %q) = %s, %v", storeDump(s), updateTextOf(u), storeDump(got), ok)
				}
			}
			for _, keep := range [][]int{nil, {born}, {0, 1, 2, 3}} {
				if got, n := impl.ReclaimStore(s, keep); n != 0 || storeDump(got) != storeDump(s) {
					t.Errorf("ReclaimStore(%s, %v) = %s, %d", storeDump(s), keep, storeDump(got), n)
				}
			}
		}
	}
	empty := storeOf(0, nil)
	for _, c := range []struct {
		texts []string
		count int
		want  string
		shown []string
	}{
		{[]string{"insert 1:1,2,3", "delete 1"}, 2, "now 2; 1: 1 [1 2 3] 1-2", []string{"", "1:[1 2 3]", ""}},
		{[]string{"insert 1:1,2,3", "delete 1", "delete 1"}, 2, "now 2; 1: 1 [1 2 3] 1-2", []string{"", "1:[1 2 3]", ""}},
		{[]string{"insert 1:1,2,3", "delete 1", "insert 1:4,5,6"}, 3, "now 3; 2: 1 [1 2 3] 1-2 1 [4 5 6] 3--1", []string{"", "1:[1 2 3]", "", "1:[4 5 6]"}},
		{[]string{"insert 1:1,2,3", "insert 1:4,5,6", "delete 1"}, 2, "now 2; 1: 1 [1 2 3] 1-2", []string{"", "1:[1 2 3]", ""}},
		{[]string{"insert 1:1,2,3", "set 1 f0 9"}, 2, "now 2; 2: 1 [1 2 3] 1-2 1 [9 2 3] 2--1", []string{"", "1:[1 2 3]", "1:[9 2 3]"}},
		{[]string{"insert 1:1,2,3", "set 1 f0 9", "set 1 f2 8", "delete 1"}, 4, "now 4; 3: 1 [1 2 3] 1-2 1 [9 2 3] 2-3 1 [9 2 8] 3-4", []string{"", "1:[1 2 3]", "1:[9 2 3]", "1:[9 2 8]", ""}},
	} {
		s, n := impl.ApplyUpdates(empty, parsedUpdates(t, c.texts))
		if n != c.count || storeDump(s) != c.want || !impl.IsStore(s) {
			t.Errorf("%q lead to %s, %d, want %s", c.texts, storeDump(s), n, c.want)
		}
		for time, want := range c.shown {
			if got := rowsText(impl.RowsAt(s, time)); got != want {
				t.Errorf("after %q, the time %d shows %q, want %q", c.texts, time, got, want)
			}
			if x, _ := impl.ReclaimStore(s, []int{time}); rowsText(impl.RowsAt(x, time)) != want {
				t.Errorf("after %q, the time %d is kept and shows %q, want %q", c.texts, time, rowsText(impl.RowsAt(x, time)), want)
			}
		}
	}
}

func parsedUpdates(t *testing.T, texts []string) []impl.Update {
	t.Helper()
	var l []impl.Update
	for _, text := range texts {
		u, ok := impl.ParseUpdate(text)
		if !ok {
			t.Fatalf("ParseUpdate(%q) = false", text)
		}
		l = append(l, u)
	}
	return l
}

func TestApplyUpdates(t *testing.T) {
	start := storeOf(5, []impl.Version{lived(0, -1, 1, 1, 1, 1), lived(2, 4, 2, 2, 2, 2), lived(5, -1, 3, 3, 3, 3)}, nil)
	for _, c := range []struct {
		why   string
		texts []string
		count int
		want  string
	}{
		{"no updates", nil, 0, "now 5; 3: 1 [1 1 1] 0--1 2 [2 2 2] 2-4 3 [3 3 3] 5--1; 0:"},
		{"one that fails", []string{"delete 2"}, 0, "now 5; 3: 1 [1 1 1] 0--1 2 [2 2 2] 2-4 3 [3 3 3] 5--1; 0:"},
		{"those that fail make no time", []string{"delete 2", "insert 1:0,0,0", "delete 3", "delete 3", "set 3 f0 1", "delete 1"}, 2, "now 7; 3: 1 [1 1 1] 0-7 2 [2 2 2] 2-4 3 [3 3 3] 5-6; 0:"},
		{"each one sees those before it", []string{"set 1 f0 5", "set 1 f1 6", "set 1 f2 7"}, 3, "now 8; 4: 1 [1 1 1] 0-6 2 [2 2 2] 2-4 3 [3 3 3] 5--1 1 [5 1 1] 6-7; 2: 1 [5 6 1] 7-8 1 [5 6 7] 8--1"},
		{"until the segments are full", []string{"insert 4:4,4,4", "insert 5:5,5,5", "insert 6:6,6,6", "insert 7:7,7,7", "insert 8:8,8,8", "insert 9:9,9,9", "set 8 f0 0", "delete 8"}, 6, "now 11; 4: 1 [1 1 1] 0--1 2 [2 2 2] 2-4 3 [3 3 3] 5--1 4 [4 4 4] 6--1; 4: 5 [5 5 5] 7--1 6 [6 6 6] 8--1 7 [7 7 7] 9--1 8 [8 8 8] 10-11"},
	} {
		if got, n := impl.ApplyUpdates(start, parsedUpdates(t, c.texts)); n != c.count || storeDump(got) != c.want {
			t.Errorf("%s: ApplyUpdates of %q = %s, %d, want %s, %d", c.why, c.texts, storeDump(got), n, c.want, c.count)
		}
	}
	mixed := []impl.Update{{}, deleteOf(1), setTo(3, 3, 0), insertOf(row(4)), {Kind: 2, Row: row(3), Value: 1}, setTo(3, 1, 9)}
	if got, n := impl.ApplyUpdates(start, mixed); n != 2 || got.Now != 7 || rowsText(impl.RowsAt(got, 7)) != "3:[3 9 3]" {
		t.Errorf("ApplyUpdates with updates that are not valid = %s, %d", storeDump(got), n)
	}
	for _, s := range badStores() {
		for _, l := range [][]impl.Update{nil, goodUpdates(), badUpdates()} {
			if got, n := impl.ApplyUpdates(s, l); n != 0 || storeDump(got) != storeDump(s) {
				t.Errorf("ApplyUpdates(%s) = %s, %d for a store that is not valid", storeDump(s), storeDump(got), n)
			}
		}
	}
}

// TestApplyUpdatesOneByOne holds ApplyUpdates against ApplyUpdate and against its independent statement.
func TestApplyUpdatesOneByOne(t *testing.T) {
	for _, s := range goodStores() {
		l := append(updatesOn(s), updatesOn(s)...)
		one, model, count := s, s, 0
		for _, u := range l {
			var ok bool
			if one, ok = impl.ApplyUpdate(one, u); ok {
				count++
			}
			model, _ = updatedBy(model, u)
		}
		if got, n := impl.ApplyUpdates(s, l); n != count || storeDump(got) != storeDump(one) || storeDump(got) != storeDump(model) || !impl.IsStore(got) {
			t.Errorf("ApplyUpdates(%s) = %s, %d, but one by one %s, %d, want %s", storeDump(s), storeDump(got), n, storeDump(one), count, storeDump(model))
		}
	}
}

func TestReclaimStore(t *testing.T) {
	s := storeOf(9,
		[]impl.Version{lived(0, 2, 1, 1, 0, 0), lived(2, 5, 1, 2, 0, 0), lived(5, -1, 1, 3, 0, 0)},
		[]impl.Version{lived(4, 5, 2, 1, 1, 1), lived(9, -1, 2, 2, 2, 2), lived(0, 9, 3, 3, 3, 3)})
	all := "now 9; 3: 1 [1 0 0] 0-2 1 [2 0 0] 2-5 1 [3 0 0] 5--1; 3: 2 [1 1 1] 4-5 2 [2 2 2] 9--1 3 [3 3 3] 0-9"
	alive := "now 9; 1: 1 [3 0 0] 5--1; 1: 2 [2 2 2] 9--1"
	for _, c := range []struct {
		why  string
		keep []int
		n    int
		want string
	}{
		{"nobody needs a dead version", nil, 4, alive},
		{"the time of birth", []int{0}, 2, "now 9; 2: 1 [1 0 0] 0-2 1 [3 0 0] 5--1; 2: 2 [2 2 2] 9--1 3 [3 3 3] 0-9"},
		{"the last time before a death", []int{1}, 2, "now 9; 2: 1 [1 0 0] 0-2 1 [3 0 0] 5--1; 2: 2 [2 2 2] 9--1 3 [3 3 3] 0-9"},
		{"the time of a death", []int{2}, 2, "now 9; 2: 1 [2 0 0] 2-5 1 [3 0 0] 5--1; 2: 2 [2 2 2] 9--1 3 [3 3 3] 0-9"},
		{"a version of one time", []int{4}, 1, "now 9; 2: 1 [2 0 0] 2-5 1 [3 0 0] 5--1; 3: 2 [1 1 1] 4-5 2 [2 2 2] 9--1 3 [3 3 3] 0-9"},
		{"after it", []int{5}, 3, "now 9; 1: 1 [3 0 0] 5--1; 2: 2 [2 2 2] 9--1 3 [3 3 3] 0-9"},
		{"the present", []int{9}, 4, alive},
		{"two times", []int{0, 4}, 0, all},
		{"two times, in another order and again", []int{4, 0, 4}, 0, all},
		{"times that show no dead version", []int{9, 10, 100000, math.MaxInt, -1, math.MinInt}, 4, alive},
		{"no time and a time", []int{-1, 8}, 3, "now 9; 1: 1 [3 0 0] 5--1; 2: 2 [2 2 2] 9--1 3 [3 3 3] 0-9"},
		{"all times", []int{0, 1, 2, 3, 4, 5, 6, 7, 8, 9}, 0, all},
	} {
		if got, n := impl.ReclaimStore(s, c.keep); n != c.n || storeDump(got) != c.want {
			t.Errorf("%s: ReclaimStore for %v = %s, %d, want %s, %d", c.why, c.keep, storeDump(got), n, c.want, c.n)
		}
	}
}

// TestReclaimOfStores holds ReclaimStore against its independent statement, and what is left against what the kept times showed.
func TestReclaimOfStores(t *testing.T) {
	for _, s := range goodStores() {
		for _, keep := range append(listsOf([]int{-1, 0, 1, 2, 4, 5}, 3), []int{99999}, []int{100000}, []int{30}, []int{31, 7}) {
			want, count := reclaimedFor(s, keep)
			got, n := impl.ReclaimStore(s, keep)
			if n != count || storeDump(got) != storeDump(want) || !impl.IsStore(got) {
				t.Errorf("ReclaimStore(%s, %v) = %s, %d, want %s, %d", storeDump(s), keep, storeDump(got), n, storeDump(want), count)
			}
			for _, time := range append(slices.Clone(keep), s.Now, s.Now+1) {
				if before, after := rowsText(impl.RowsAt(s, time)), rowsText(impl.RowsAt(got, time)); before != after {
					t.Errorf("the time %d showed %s, and shows %s when versions of %v are kept", time, before, after, keep)
				}
			}
			if again, n := impl.ReclaimStore(got, keep); n != 0 || storeDump(again) != storeDump(got) {
				t.Errorf("ReclaimStore(%s, %v) a second time = %s, %d", storeDump(got), keep, storeDump(again), n)
			}
		}
	}
	for _, s := range badStores() {
		for _, keep := range [][]int{nil, {0}, {5}, {-1, 3}} {
			if got, n := impl.ReclaimStore(s, keep); n != 0 || storeDump(got) != storeDump(s) {
				t.Errorf("ReclaimStore(%s, %v) = %s, %d for a store that is not valid", storeDump(s), keep, storeDump(got), n)
			}
		}
	}
}

// shownAt is what a time shows, in all and segment by segment.
func shownAt(s impl.Store, time int) string {
	text := rowsText(impl.RowsAt(s, time))
	for i := range s.Segments {
		text += "; " + rowsText(impl.SegmentRows(s, i, time))
	}
	return text
}

// TestUpdatesLeaveThePast is guarantee 4: updates and reclaimed versions change nothing of what a kept time shows.
func TestUpdatesLeaveThePast(t *testing.T) {
	for segments := 1; segments <= 8; segments++ {
		s, _ := impl.NewStore(ascending(0, 2*segments), segments)
		model := s
		shown := map[int]string{0: shownAt(s, 0)}
		kept := []int{0}
		state := segments
		successes := map[int]int{}
		for n := range 600 {
			state = (state*1103515245 + 12345) % (1 << 31)
			id, kind, value := state>>8%(3*segments), state>>16%3, state>>20%100
			u := []impl.Update{insertOf(row(id, value, n%100, 5)), deleteOf(id), setTo(id, n%3, value)}[kind]
			want, wantOk := updatedBy(model, u)
			got, ok := impl.ApplyUpdate(s, u)
			if ok != wantOk || storeDump(got) != storeDump(want) {
				t.Fatalf("ApplyUpdate(%s, %q) = %s, %v, want %s, %v", storeDump(s), updateTextOf(u), storeDump(got), ok, storeDump(want), wantOk)
			}
			s, model = got, want
			if ok {
				successes[u.Kind]++
				shown[s.Now] = shownAt(s, s.Now)
				kept = append(kept, s.Now)
			}
			if n%5 == 4 {
				// Some of the last times stay, and the present.
				kept = slices.DeleteFunc(kept, func(time int) bool { return time < s.Now-2*segments || time%3 == n%2 && time != s.Now })
				s, _ = impl.ReclaimStore(s, kept)
				model, _ = reclaimedFor(model, kept)
			}
			if !impl.IsStore(s) || storeDump(s) != storeDump(model) {
				t.Fatalf("the store is %s, want %s", storeDump(s), storeDump(model))
			}
			for _, time := range kept {
				if got := shownAt(s, time); got != shown[time] {
					t.Fatalf("the time %d shows %s, but it showed %s", time, got, shown[time])
				}
			}
		}
		if successes[1] < 40 || successes[2] < 40 || successes[3] < 40 {
			t.Errorf("too few updates succeeded with %d segments: %v", segments, successes)
		}
	}
}

// TestUpdatesLeaveArgumentsAlone watches the arguments, their unused capacity included, while a result is written to.
func TestUpdatesLeaveArgumentsAlone(t *testing.T) {
	values := []int{9, 8, 7, 6, 5, 4, 3}
	first := []impl.Version{lived(0, -1, 4, values[:3]...), {Id: 1, Values: values[1:4], Died: 2}, {Id: 77}, {Id: 78}}
	second := []impl.Version{{Id: 7, Values: values[2:5], Born: 2, Died: -1}, {Id: 79}, {Id: 80}}
	lists := [][]impl.Version{first[:2], second[:1], first[2:], second[1:]}
	keep := []int{1, 2, 3}
	row5 := impl.Row{Id: 5, Values: values[4:7]}
	updates := []impl.Update{insertOf(row5), deleteOf(4), setTo(7, 0, 1), setTo(4, 2, 2), insertOf(row(1, 1, 2, 3)), deleteOf(99)}
	valid, bad := storeOf(2, lists[:2]...), storeOf(1, lists[:2]...)
	state := func() string {
		text := fmt.Sprint(values, first, second, keep, row5)
		for _, u := range updates {
			text += updateDump(u)
		}
		return text + storeDump(storeOf(2, lists...)) + storeDump(valid) + storeDump(bad)
	}
	before := state()
	if !impl.IsStore(valid) || impl.IsStore(bad) {
		t.Fatalf("IsStore(%s) or not IsStore(%s)", storeDump(bad), storeDump(valid))
	}
	for _, s := range []impl.Store{valid, bad} {
		var results []impl.Store
		for i, u := range updates {
			one, _ := impl.ApplyUpdate(s, u)
			many, _ := impl.ApplyUpdates(s, updates[:i])
			results = append(results, one, many)
		}
		for i := range keep {
			x, _ := impl.ReclaimStore(s, keep[i:i+1:i+1])
			y, _ := impl.ReclaimStore(s, keep[:i])
			results = append(results, x, y)
		}
		if got := state(); got != before {
			t.Fatalf("an argument changed: %s, was %s", got, before)
		}
		for _, x := range results {
			overwrite(x)
		}
		if got := state(); got != before {
			t.Fatalf("a result shares memory with an argument: %s, was %s", got, before)
		}
	}
}

// overwrite writes to all memory of a store, its unused capacity included.
func overwrite(s impl.Store) {
	for i, l := range s.Segments {
		l = l[:cap(l)]
		for k := range l {
			values := l[k].Values[:cap(l[k].Values)]
			for n := range values {
				values[n] = -100
			}
			l[k] = lived(-200, -300, -400, -500)
		}
		s.Segments[i] = nil
	}
	rest := s.Segments[len(s.Segments):cap(s.Segments)]
	for i := range rest {
		rest[i] = []impl.Version{{Id: -600}}
	}
}

// TestUpdatedStoresShareNothing writes to each list of a result, up to its capacity, and looks at the others.
func TestUpdatedStoresShareNothing(t *testing.T) {
	values := make([]int, 3, 9)
	memory := make([]impl.Version, 8, 16)
	for i := range memory {
		memory[i] = lived(0, -1, i, values...)
		memory[i].Values = values
	}
	s := storeOf(3, memory[:2], memory[2:4], memory[4:5])
	updates := []impl.Update{insertOf(impl.Row{Id: 8, Values: values}), insertOf(impl.Row{Id: 9, Values: values}), setTo(0, 0, 0), deleteOf(3), setTo(8, 1, 0)}
	results := func() []impl.Store {
		one, _ := impl.ApplyUpdate(s, updates[2])
		none, _ := impl.ApplyUpdate(s, deleteOf(99))
		many, _ := impl.ApplyUpdates(s, updates)
		kept, _ := impl.ReclaimStore(many, []int{3})
		rest, _ := impl.ReclaimStore(many, nil)
		bad, _ := impl.ApplyUpdates(storeOf(-1, s.Segments...), updates)
		same, _ := impl.ReclaimStore(storeOf(-1, s.Segments...), nil)
		return []impl.Store{one, none, many, kept, rest, bad, same}
	}
	for n, x := range results() {
		for i, l := range x.Segments {
			for k := range l {
				got := results()[n]
				want := cloneStore(got)
				list := got.Segments[i][k].Values
				list = list[:cap(list)]
				for m := range list {
					list[m] = 50 + m
				}
				want.Segments[i][k].Values = []int{50, 51, 52}
				if storeDump(got) != storeDump(want) {
					t.Errorf("versions share memory: %s, want %s", storeDump(got), storeDump(want))
				}
			}
			got := results()[n]
			want := cloneStore(got)
			list := got.Segments[i][:cap(got.Segments[i])]
			for m := range list {
				list[m] = living(7, 7)
			}
			for m := range want.Segments[i] {
				want.Segments[i][m] = living(7, 7)
			}
			if storeDump(got) != storeDump(want) {
				t.Errorf("segments share memory: %s, want %s", storeDump(got), storeDump(want))
			}
		}
	}
	u, _ := impl.ParseUpdate("insert 5:1,2,3")
	u.Row.Values[0] = 9
	if again, _ := impl.ParseUpdate("insert 5:1,2,3"); updateDump(again) != updateDump(insertOf(row(5, 1, 2, 3))) {
		t.Errorf("an update shares memory with an earlier one: %s", updateDump(again))
	}
}
