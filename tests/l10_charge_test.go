package tests

import (
	"fmt"
	"math"
	"slices"
	"testing"

	"loop.example/g01986/impl"
)

// chargeOf returns a charge with any numbers; part has the Id, the tenant and the number of rows of each query.
func chargeOf(segment, base int, parts ...[3]int) impl.Charge {
	x := impl.Charge{Segment: segment, Base: base}
	for _, part := range parts {
		x.Ids = append(x.Ids, part[0])
		x.Tenants = append(x.Tenants, part[1])
		x.Rows = append(x.Rows, part[2])
	}
	return x
}

// chargeDump writes any charge without the empty forms of a list being different.
func chargeDump(x impl.Charge) string {
	return fmt.Sprintf("%d base %d %v %v %v", x.Segment, x.Base, x.Ids, x.Tenants, x.Rows)
}

// sharedCharge is a charge of so many queries.
func sharedCharge(count int) impl.Charge {
	x := chargeOf(1, 3)
	for i := range count {
		x.Ids, x.Tenants, x.Rows = append(x.Ids, 2*i), append(x.Tenants, (i+1)%4), append(x.Rows, i%4)
	}
	return x
}

// goodCharges are valid, with numbers at the limits among them.
func goodCharges() []impl.Charge {
	l := []impl.Charge{
		chargeOf(0, 0, [3]int{0, 0, 0}),
		chargeOf(7, 4, [3]int{23, 3, 4}),
		chargeOf(1, 3, [3]int{1, 0, 2}, [3]int{4, 0, 0}),
		chargeOf(5, 1, [3]int{0, 3, 1}, [3]int{22, 0, 0}, [3]int{23, 3, 1}),
		chargeOf(0, 4, [3]int{16, 0, 4}, [3]int{17, 1, 4}, [3]int{18, 2, 4}, [3]int{19, 3, 4}, [3]int{20, 0, 4}, [3]int{21, 1, 4}, [3]int{22, 2, 4}, [3]int{23, 3, 4}),
	}
	for count := 1; count <= 8; count++ {
		l = append(l, sharedCharge(count))
	}
	return l
}

// badCharges are charges that no function takes for valid, most of them for one reason alone.
func badCharges() []impl.Charge {
	l := []impl.Charge{{}, chargeOf(1, 3), sharedCharge(9), sharedCharge(12)}
	with := func(change func(x *impl.Charge)) {
		x := chargeOf(1, 3, [3]int{1, 0, 2}, [3]int{4, 2, 0})
		change(&x)
		l = append(l, x)
	}
	for _, n := range append(numbersAround(7), 8) {
		with(func(x *impl.Charge) { x.Segment = n })
	}
	for _, n := range append(numbersAround(4), 0, 1) {
		with(func(x *impl.Charge) { x.Base = n })
	}
	for _, ids := range [][]int{nil, {1}, {1, 1}, {4, 1}, {-1, 4}, {1, 24}, {1, 1 << 32}, {1, 4, 5}, {math.MinInt, 4}, {1, math.MaxInt}} {
		with(func(x *impl.Charge) { x.Ids = ids })
	}
	for _, tenants := range [][]int{nil, {0}, {0, 2, 0}, {0, 4}, {-1, 0}, {4, 0}, {0, 5}, {1 << 32, 0}, {0, math.MinInt}, {math.MaxInt, 0}} {
		with(func(x *impl.Charge) { x.Tenants = tenants })
	}
	for _, rows := range [][]int{nil, {2}, {2, 0, 0}, {4, 0}, {0, 4}, {-1, 0}, {0, -1}, {0, 1 << 32}, {math.MinInt, 0}, {0, math.MaxInt}} {
		with(func(x *impl.Charge) { x.Rows = rows })
	}
	return l
}

// isChargeOf is an independent statement of IsCharge.
func isChargeOf(x impl.Charge) bool {
	n := len(x.Ids)
	if n == 0 || n > 8 || len(x.Tenants) != n || len(x.Rows) != n || x.Segment < 0 || x.Segment > 7 || x.Base < 0 || x.Base > 4 {
		return false
	}
	for i, id := range x.Ids {
		if id < 0 || id > 23 || slices.Contains(x.Ids[:i], id) || x.Tenants[i] < 0 || x.Tenants[i] > 3 || x.Rows[i] < 0 || x.Rows[i] > x.Base {
			return false
		}
	}
	return slices.IsSorted(x.Ids)
}

func TestIsCharge(t *testing.T) {
	for _, x := range goodCharges() {
		if !impl.IsCharge(x) || !isChargeOf(x) {
			t.Errorf("IsCharge(%s) = %v", chargeDump(x), impl.IsCharge(x))
		}
	}
	for _, x := range badCharges() {
		if impl.IsCharge(x) || isChargeOf(x) {
			t.Errorf("IsCharge(%s) = %v", chargeDump(x), impl.IsCharge(x))
		}
	}
}

// TestIsChargeOfAllParts puts lists, segments and bases from a few together.
func TestIsChargeOfAllParts(t *testing.T) {
	for _, ids := range listsOf([]int{-1, 0, 23, 24}, 2) {
		for _, tenants := range listsOf([]int{-1, 0, 3, 4}, 2) {
			for _, rows := range listsOf([]int{-1, 0, 1, 4, 5}, 2) {
				for _, base := range []int{-1, 0, 1, 4, 5} {
					for _, segment := range []int{-1, 0, 7, 8} {
						x := impl.Charge{Segment: segment, Base: base, Ids: ids, Tenants: tenants, Rows: rows}
						if got := impl.IsCharge(x); got != isChargeOf(x) {
							t.Fatalf("IsCharge(%s) = %v", chargeDump(x), got)
						}
					}
				}
			}
		}
	}
}
