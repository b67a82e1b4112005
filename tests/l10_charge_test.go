package tests

import (
	"fmt"
	"math"
	"slices"
	"strings"
	"testing"

	"loop.example/g01986/impl"
)

// chargeOf returns a charge with any numbers; part has the Id, the tenant and the number of rows of each query.
func chargeOf(segment, base int, parts ...[3]int) impl.Charge {
	x := impl.Charge{Segment: segment, Base: base}
	for _, part := range parts {
		x.Ids = append(x.Ids, part[0])
		x.Tenants = append(x.Tenants, part[1])
		x.Rows = append(x.Rows, part[2])
	}
	return x
}

// chargeDump writes any charge without the empty forms of a list being different.
func chargeDump(x impl.Charge) string {
	return fmt.Sprintf("%d base %d %v %v %v", x.Segment, x.Base, x.Ids, x.Tenants, x.Rows)
}

// sharedCharge is a charge of so many queries.
func sharedCharge(count int) impl.Charge {
	x := chargeOf(1, 3)
	for i := range count {
		x.Ids, x.Tenants, x.Rows = append(x.Ids, 2*i), append(x.Tenants, (i+1)%4), append(x.Rows, i%4)
	}
	return x
}

// goodCharges are valid, with numbers at the limits among them.
func goodCharges() []impl.Charge {
	l := []impl.Charge{
		chargeOf(0, 0, [3]int{0, 0, 0}),
		chargeOf(7, 4, [3]int{23, 3, 4}),
		chargeOf(1, 3, [3]int{1, 0, 2}, [3]int{4, 0, 0}),
		chargeOf(5, 1, [3]int{0, 3, 1}, [3]int{22, 0, 0}, [3]int{23, 3, 1}),
		chargeOf(0, 4, [3]int{16, 0, 4}, [3]int{17, 1, 4}, [3]int{18, 2, 4}, [3]int{19, 3, 4}, [3]int{20, 0, 4}, [3]int{21, 1, 4}, [3]int{22, 2, 4}, [3]int{23, 3, 4}),
	}
	for count := 1; count <= 8; count++ {
		l = append(l, sharedCharge(count))
	}
	return l
}

// badCharges are charges that no function takes for valid, most of them for one reason alone.
func badCharges() []impl.Charge {
	l := []impl.Charge{{}, chargeOf(1, 3), sharedCharge(9), sharedCharge(12)}
	with := func(change func(x *impl.Charge)) {
		x := chargeOf(1, 3, [3]int{1, 0, 2}, [3]int{4, 2, 0})
		change(&x)
		l = append(l, x)
	}
	for _, n := range append(numbersAround(7), 8) {
		with(func(x *impl.Charge) { x.Segment = n })
	}
	for _, n := range append(numbersAround(4), 0, 1) {
		with(func(x *impl.Charge) { x.Base = n })
	}
	for _, ids := range [][]int{nil, {1}, {1, 1}, {4, 1}, {-1, 4}, {1, 24}, {1, 1 << 32}, {1, 4, 5}, {math.MinInt, 4}, {1, math.MaxInt}} {
		with(func(x *impl.Charge) { x.Ids = ids })
	}
	for _, tenants := range [][]int{nil, {0}, {0, 2, 0}, {0, 4}, {-1, 0}, {4, 0}, {0, 5}, {1 << 32, 0}, {0, math.MinInt}, {math.MaxInt, 0}} {
		with(func(x *impl.Charge) { x.Tenants = tenants })
	}
	for _, rows := range [][]int{nil, {2}, {2, 0, 0}, {4, 0}, {0, 4}, {-1, 0}, {0, -1}, {0, 1 << 32}, {math.MinInt, 0}, {0, math.MaxInt}} {
		with(func(x *impl.Charge) { x.Rows = rows })
	}
	return l
}

// isChargeOf is an independent statement of IsCharge.
func isChargeOf(x impl.Charge) bool {
	n := len(x.Ids)
	if n == 0 || n > 8 || len(x.Tenants) != n || len(x.Rows) != n || x.Segment < 0 || x.Segment > 7 || x.Base < 0 || x.Base > 4 {
		return false
	}
	for i, id := range x.Ids {
		if id < 0 || id > 23 || slices.Contains(x.Ids[:i], id) || x.Tenants[i] < 0 || x.Tenants[i] > 3 || x.Rows[i] < 0 || x.Rows[i] > x.Base {
			return false
		}
	}
	return slices.IsSorted(x.Ids)
}

func TestIsCharge(t *testing.T) {
	for _, x := range goodCharges() {
		if !impl.IsCharge(x) || !isChargeOf(x) {
			t.Errorf("IsCharge(%s) = %v", chargeDump(x), impl.IsCharge(x))
		}
	}
	for _, x := range badCharges() {
		if impl.IsCharge(x) || isChargeOf(x) {
			t.Errorf("IsCharge(%s) = %v", chargeDump(x), impl.IsCharge(x))
		}
	}
}

// TestIsChargeOfAllParts puts lists, segments and bases from a few together.
func TestIsChargeOfAllParts(t *testing.T) {
	for _, ids := range listsOf([]int{-1, 0, 23, 24}, 2) {
		for _, tenants := range listsOf([]int{-1, 0, 3, 4}, 2) {
			for _, rows := range listsOf([]int{-1, 0, 1, 4, 5}, 2) {
				for _, base := range []int{-1, 0, 1, 4, 5} {
					for _, segment := range []int{-1, 0, 7, 8} {
						x := impl.Charge{Segment: segment, Base: base, Ids: ids, Tenants: tenants, Rows: rows}
						if got := impl.IsCharge(x); got != isChargeOf(x) {
							t.Fatalf("IsCharge(%s) = %v", chargeDump(x), got)
						}
					}
				}
			}
		}
	}
}

// sharesFor is an independent statement of SharesOf for valid charges: the versions are dealt out to the queries one by one.
func sharesFor(x impl.Charge) []int {
	shares := slices.Clone(x.Rows)
	for version := range x.Base {
		shares[version%len(shares)]++
	}
	return shares
}

// workIn is an independent statement of WorkDone.
func workIn(x impl.Charge) int {
	work := 0
	if isChargeOf(x) {
		for _, share := range sharesFor(x) {
			work += share
		}
	}
	return work
}

// paidBy is an independent statement of TenantCharge.
func paidBy(l []impl.Charge, tenant int) int {
	sum := 0
	for _, x := range l {
		for i := 0; isChargeOf(x) && i < len(x.Tenants); i++ {
			if x.Tenants[i] == tenant {
				sum += sharesFor(x)[i]
			}
		}
	}
	return sum
}

// costAlone is an independent statement of CoalitionCost: it is the work of the steps without the queries of all others.
func costAlone(l []impl.Charge, tenants []int) int {
	sum := 0
	for _, x := range l {
		if !isChargeOf(x) {
			continue
		}
		alone := impl.Charge{Segment: x.Segment, Base: x.Base}
		for i, tenant := range x.Tenants {
			if slices.Contains(tenants, tenant) {
				alone.Ids, alone.Tenants, alone.Rows = append(alone.Ids, x.Ids[i]), append(alone.Tenants, tenant), append(alone.Rows, x.Rows[i])
			}
		}
		sum += workIn(alone)
	}
	return sum
}

// chargeTextOf is an independent statement of FormatCharge for valid charges.
func chargeTextOf(x impl.Charge) string {
	text := fmt.Sprintf("%d base %d", x.Segment, x.Base)
	for i, id := range x.Ids {
		text += fmt.Sprintf(" q%d+%d", id, x.Rows[i])
	}
	return text
}

// chargeWith returns a charge with this base whose queries got so many rows each.
func chargeWith(base int, rows ...int) impl.Charge {
	x := impl.Charge{Segment: base, Base: base, Rows: rows}
	for i := range rows {
		x.Ids, x.Tenants = append(x.Ids, i*3), append(x.Tenants, i%4)
	}
	return x
}

// everyCharge returns a charge for each number of queries, each base, and each number of rows for a query; all of them are valid.
func everyCharge() []impl.Charge {
	var l []impl.Charge
	for count := 1; count <= 8; count++ {
		for base := range 5 {
			for first := range base + 1 {
				x := chargeWith(base, make([]int, count)...)
				for i := range count {
					x.Rows[i] = (first + i) % (base + 1)
					x.Tenants[i] = (first + i*i + base) % 4
				}
				l = append(l, x)
			}
		}
	}
	return l
}

// smallCharges are all charges with at most three queries of the tenants 0 to 2 and with some bases and numbers of rows.
func smallCharges() []impl.Charge {
	var l []impl.Charge
	for _, tenants := range listsOf([]int{0, 1, 2}, 3) {
		for _, rows := range listsOf([]int{0, 1, 3}, 3) {
			for base := range 5 {
				x := impl.Charge{Segment: 7 - base, Base: base, Ids: []int{4, 9, 23}[:len(tenants)], Tenants: tenants, Rows: rows}
				if isChargeOf(x) {
					l = append(l, x)
				}
			}
		}
	}
	return l
}

// ledgers are lists of charges, without any and with many, with bad ones among them or alone.
func ledgers() [][]impl.Charge {
	mixed := goodCharges()
	for i, x := range badCharges() {
		mixed = slices.Insert(mixed, i, x)
	}
	lists := [][]impl.Charge{nil, {}, goodCharges(), badCharges(), mixed, everyCharge(), fullEngine().Ledger, busyEngine().Ledger, {chargeWith(3, 1), chargeWith(3, 1)}}
	for _, x := range append(goodCharges(), smallCharges()...) {
		lists = append(lists, []impl.Charge{x})
	}
	for _, x := range badCharges() {
		lists = append(lists, []impl.Charge{x})
	}
	return lists
}

// groupsOfTenants are all of them, without those that name a tenant twice.
func groupsOfTenants() [][]int {
	var groups [][]int
	for bits := range 16 {
		groups = append(groups, setOf(bits, []int{0, 1, 2, 3}))
	}
	return groups
}

func TestSharesOf(t *testing.T) {
	for _, c := range []struct {
		x    impl.Charge
		want []int
	}{
		{chargeOf(1, 3, [3]int{1, 0, 2}, [3]int{4, 2, 0}), []int{4, 1}},
		{chargeOf(0, 0, [3]int{0, 0, 0}), []int{0}},
		{chargeWith(4, 4), []int{8}},
		{chargeWith(0, 0, 0, 0), []int{0, 0, 0}},
		{chargeWith(1, 0), []int{1}},
		// A base that can be divided.
		{chargeWith(4, 0, 0), []int{2, 2}},
		{chargeWith(2, 2, 1), []int{3, 2}},
		{chargeWith(3, 0, 3, 1), []int{1, 4, 2}},
		{chargeWith(4, 1, 2, 3, 4), []int{2, 3, 4, 5}},
		// A base that cannot be divided: there is a remainder.
		{chargeWith(3, 0, 0), []int{2, 1}},
		{chargeWith(4, 0, 0, 0), []int{2, 1, 1}},
		{chargeWith(4, 0, 4, 2), []int{2, 5, 3}},
		// A base that cannot be divided: it is less than the number of queries.
		{chargeWith(1, 0, 0), []int{1, 0}},
		{chargeWith(1, 0, 1), []int{1, 1}},
		{chargeWith(2, 0, 0, 0), []int{1, 1, 0}},
		{chargeWith(3, 3, 2, 1, 0), []int{4, 3, 2, 0}},
		{chargeWith(4, 0, 0, 0, 0, 4), []int{1, 1, 1, 1, 4}},
		{chargeWith(1, 0, 0, 0, 0, 0, 0, 0, 0), []int{1, 0, 0, 0, 0, 0, 0, 0}},
		{chargeWith(3, 0, 1, 2, 3, 0, 1, 2, 3), []int{1, 2, 3, 3, 0, 1, 2, 3}},
		{chargeWith(4, 4, 4, 4, 4, 4, 4, 4, 4), []int{5, 5, 5, 5, 4, 4, 4, 4}},
	} {
		if got := impl.SharesOf(c.x); !slices.Equal(got, c.want) || !slices.Equal(sharesFor(c.x), c.want) {
			t.Errorf("SharesOf(%s) = %v, want %v", chargeDump(c.x), got, c.want)
		}
	}
	for _, x := range slices.Concat(goodCharges(), everyCharge(), smallCharges()) {
		if got := impl.SharesOf(x); !slices.Equal(got, sharesFor(x)) {
			t.Errorf("SharesOf(%s) = %v, want %v", chargeDump(x), got, sharesFor(x))
		}
	}
}

// TestSharesAreFair: of the base, no query pays over 1 more than another one, and none pays more than one before it.
func TestSharesAreFair(t *testing.T) {
	for _, x := range everyCharge() {
		shares := impl.SharesOf(x)
		for i := range shares {
			shares[i] -= x.Rows[i]
			if i > 0 && shares[i] > shares[i-1] || shares[0]-shares[i] > 1 {
				t.Fatalf("SharesOf(%s) has the shares %v of the base", chargeDump(x), shares)
			}
		}
	}
}

func TestWorkDone(t *testing.T) {
	for _, c := range []struct {
		x    impl.Charge
		want int
	}{
		{chargeOf(1, 3, [3]int{1, 0, 2}, [3]int{4, 2, 0}), 5},
		{chargeOf(0, 0, [3]int{0, 0, 0}), 0},
		{chargeWith(4, 0), 4},
		{chargeWith(1, 1), 2},
		{chargeWith(4, 1, 2, 3, 4), 14},
		{chargeWith(1, 0, 0, 0), 1},
		{chargeWith(4, 4, 4, 4, 4, 4, 4, 4, 4), 36},
	} {
		if got := impl.WorkDone(c.x); got != c.want || workIn(c.x) != c.want {
			t.Errorf("WorkDone(%s) = %d, want %d", chargeDump(c.x), got, c.want)
		}
	}
	for _, x := range slices.Concat(goodCharges(), everyCharge(), smallCharges()) {
		if got := impl.WorkDone(x); got != workIn(x) {
			t.Errorf("WorkDone(%s) = %d, want %d", chargeDump(x), got, workIn(x))
		}
	}
}

func TestFormatCharge(t *testing.T) {
	for _, c := range []struct {
		x    impl.Charge
		want string
	}{
		{chargeOf(1, 3, [3]int{1, 0, 2}, [3]int{4, 2, 0}), "1 base 3 q1+2 q4+0"},
		{chargeOf(0, 0, [3]int{0, 3, 0}), "0 base 0 q0+0"},
		{chargeOf(7, 4, [3]int{23, 1, 4}), "7 base 4 q23+4"},
		{chargeOf(2, 1, [3]int{9, 0, 0}, [3]int{10, 0, 1}, [3]int{11, 3, 1}), "2 base 1 q9+0 q10+1 q11+1"},
		{chargeOf(5, 2, [3]int{0, 0, 0}, [3]int{1, 0, 1}, [3]int{2, 0, 2}, [3]int{3, 0, 0}, [3]int{4, 0, 1}, [3]int{5, 0, 2}, [3]int{6, 0, 0}, [3]int{7, 0, 1}), "5 base 2 q0+0 q1+1 q2+2 q3+0 q4+1 q5+2 q6+0 q7+1"},
	} {
		if got := impl.FormatCharge(c.x); got != c.want || chargeTextOf(c.x) != c.want {
			t.Errorf("FormatCharge(%s) = %q, want %q", chargeDump(c.x), got, c.want)
		}
	}
	for _, x := range slices.Concat(goodCharges(), everyCharge(), smallCharges()) {
		if got := impl.FormatCharge(x); got != chargeTextOf(x) {
			t.Errorf("FormatCharge(%s) = %q, want %q", chargeDump(x), got, chargeTextOf(x))
		}
	}
}

// TestBadCharges: the functions of one charge return what they have for an invalid one.
func TestBadCharges(t *testing.T) {
	for _, x := range badCharges() {
		if shares := impl.SharesOf(x); len(shares) != 0 {
			t.Errorf("SharesOf(%s) = %v", chargeDump(x), shares)
		}
		if work := impl.WorkDone(x); work != 0 {
			t.Errorf("WorkDone(%s) = %d", chargeDump(x), work)
		}
		if text := impl.FormatCharge(x); text != "" {
			t.Errorf("FormatCharge(%s) = %q", chargeDump(x), text)
		}
	}
}

// TestBadChargesCountNothing puts each bad charge in front of good ones, between them and behind them.
func TestBadChargesCountNothing(t *testing.T) {
	good := goodCharges()[:6]
	for i, x := range badCharges() {
		l := slices.Insert(slices.Clone(good), i%(len(good)+1), x)
		if got, want := impl.TotalWork(l), impl.TotalWork(good); got != want {
			t.Errorf("with %s, TotalWork = %d, want %d", chargeDump(x), got, want)
		}
		for tenant := -1; tenant <= 5; tenant++ {
			if got, want := impl.TenantCharge(l, tenant), impl.TenantCharge(good, tenant); got != want {
				t.Errorf("with %s, TenantCharge of %d = %d, want %d", chargeDump(x), tenant, got, want)
			}
			if got, want := impl.CoalitionCost(l, []int{tenant, 0}), impl.CoalitionCost(good, []int{tenant, 0}); got != want {
				t.Errorf("with %s, CoalitionCost of %d and 0 = %d, want %d", chargeDump(x), tenant, got, want)
			}
		}
	}
}

// threeCharges are one that cannot be divided, with two queries of the tenant 1, and two others, one of them without rows.
func threeCharges() []impl.Charge {
	return []impl.Charge{
		chargeOf(1, 4, [3]int{2, 1, 3}, [3]int{3, 0, 1}, [3]int{9, 1, 2}),
		chargeOf(2, 2, [3]int{3, 0, 0}),
		chargeOf(1, 1, [3]int{5, 3, 1}, [3]int{9, 1, 0}),
	}
}

func TestTenantCharge(t *testing.T) {
	for tenant, want := range []int{2 + 2, 5 + 3 + 0, 0, 2} {
		if got := impl.TenantCharge(threeCharges(), tenant); got != want {
			t.Errorf("TenantCharge of %d = %d, want %d", tenant, got, want)
		}
	}
	for _, l := range ledgers() {
		for tenant := range 4 {
			if got, want := impl.TenantCharge(l, tenant), paidBy(l, tenant); got != want {
				t.Fatalf("TenantCharge of %d = %d, want %d, of %v", tenant, got, want, l)
			}
		}
		for _, tenant := range append(numbersAround(3), 4, 24) {
			if got := impl.TenantCharge(l, tenant); got != 0 {
				t.Fatalf("TenantCharge of %d = %d, of %v", tenant, got, l)
			}
		}
	}
}

func TestCoalitionCost(t *testing.T) {
	for _, c := range []struct {
		tenants []int
		want    int
	}{
		{nil, 0},
		{[]int{}, 0},
		{[]int{0}, 5 + 2},
		{[]int{1}, 9 + 1},
		{[]int{2}, 0},
		{[]int{3}, 2},
		{[]int{0, 1}, 10 + 2 + 1},
		{[]int{0, 3}, 5 + 2 + 2},
		{[]int{1, 3}, 9 + 2},
		{[]int{2, 3}, 2},
		{[]int{0, 1, 2, 3}, 10 + 2 + 2},
		// The order does not matter, nor that a tenant is named twice.
		{[]int{3, 1}, 11},
		{[]int{1, 3, 1, 3, 3}, 11},
		{slices.Repeat([]int{0}, 1000), 7},
		// What is no tenant has no query.
		{[]int{-1}, 0},
		{[]int{4, 24, 1 << 32, math.MaxInt, math.MinInt}, 0},
		{[]int{4, 0, -1}, 7},
		{[]int{math.MinInt, 3, 1 << 32}, 2},
	} {
		if got := impl.CoalitionCost(threeCharges(), c.tenants); got != c.want || costAlone(threeCharges(), c.tenants) != c.want {
			t.Errorf("CoalitionCost of %v = %d, want %d", c.tenants, got, c.want)
		}
	}
	for _, l := range ledgers() {
		for _, group := range groupsOfTenants() {
			want := costAlone(l, group)
			if got := impl.CoalitionCost(l, group); got != want {
				t.Fatalf("CoalitionCost of %v = %d, want %d, of %v", group, got, want, l)
			}
			slices.Reverse(group)
			if got := impl.CoalitionCost(l, slices.Concat([]int{-1, 4}, group, group)); got != want {
				t.Fatalf("CoalitionCost of %v twice = %d, want %d, of %v", group, got, want, l)
			}
		}
	}
}

func TestTotalWork(t *testing.T) {
	if got := impl.TotalWork(threeCharges()); got != 10+2+2 {
		t.Errorf("TotalWork = %d", got)
	}
	for _, l := range ledgers() {
		want := 0
		for _, x := range l {
			want += workIn(x)
		}
		if got := impl.TotalWork(l); got != want {
			t.Fatalf("TotalWork = %d, want %d, of %v", got, want, l)
		}
	}
}

// TestSharesAddUp is the first half of guarantee 7: the shares of all queries add up to the work, that of one step and that of all.
func TestSharesAddUp(t *testing.T) {
	for _, x := range slices.Concat(goodCharges(), badCharges(), everyCharge(), smallCharges()) {
		sum := 0
		for _, share := range impl.SharesOf(x) {
			sum += share
		}
		if sum != impl.WorkDone(x) {
			t.Errorf("the shares of %s add up to %d, but WorkDone = %d", chargeDump(x), sum, impl.WorkDone(x))
		}
	}
	for _, l := range ledgers() {
		sum := 0
		for tenant := range 4 {
			sum += impl.TenantCharge(l, tenant)
		}
		if total := impl.TotalWork(l); sum != total || impl.CoalitionCost(l, []int{0, 1, 2, 3}) != total {
			t.Fatalf("the tenants pay %d, but TotalWork = %d, and alone they cost %d", sum, total, impl.CoalitionCost(l, []int{0, 1, 2, 3}))
		}
	}
}

// TestCoalitionsPayNoMore is the second half of guarantee 7: no coalition of tenants is charged more than it would cost alone.
func TestCoalitionsPayNoMore(t *testing.T) {
	less := 0
	for _, l := range ledgers() {
		for _, group := range groupsOfTenants() {
			paid := 0
			for _, tenant := range group {
				paid += impl.TenantCharge(l, tenant)
			}
			cost := impl.CoalitionCost(l, group)
			if paid > cost {
				t.Fatalf("the tenants %v pay %d, but cost %d alone, in %v", group, paid, cost, l)
			}
			if paid < cost {
				less++
			}
		}
	}
	if less < 100 {
		t.Errorf("only %d coalitions pay less than they cost alone", less)
	}
}

// TestChargesAreLeftAlone looks at the arguments, their unused capacity included, and at what they have in common with the results.
func TestChargesAreLeftAlone(t *testing.T) {
	same := []int{0, 1, 2}
	charges := append(goodCharges(), impl.Charge{Base: 4, Ids: same, Tenants: same, Rows: same}, impl.Charge{}, chargeWith(5, 1), sharedCharge(9))
	for _, plain := range charges {
		x := roomy(plain)
		l, tenants := roomy([]impl.Charge{plain, threeCharges()[0]}), roomy([]int{1, 3, 0})
		texts := func() string {
			return strings.Join([]string{wholeText(plain), wholeText(x), wholeText(l), wholeText(tenants)}, "; ")
		}
		before := texts()
		shares, again, plainShares := impl.SharesOf(x), impl.SharesOf(x), impl.SharesOf(plain)
		if sharesMemory(shares, again, x, l, tenants) || sharesMemory(plainShares, plain.Ids) || sharesMemory(plainShares, plain.Tenants) || sharesMemory(plainShares, plain.Rows) {
			t.Errorf("SharesOf(%s) shares memory", chargeDump(x))
		}
		for i := range shares {
			shares[i], plainShares[i] = -1, -1
		}
		_, _ = append(shares, -2), append(plainShares, -2)
		impl.IsCharge(x)
		impl.WorkDone(x)
		impl.FormatCharge(x)
		impl.TenantCharge(l, 1)
		impl.CoalitionCost(l, tenants)
		impl.CoalitionCost(l, l[1].Tenants)
		impl.TotalWork(l)
		if texts() != before {
			t.Fatalf("an argument changed: %s, was %s", texts(), before)
		}
	}
}
