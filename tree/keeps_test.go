package tree_test

import (
	"math"
	"slices"
	"testing"

	"vivarium/api"
	"vivarium/tree"
)

// P11.4: whether the function is the same when its inputs change places. (That Keeps tells ErrTree ahead of all else: see check_test.go.)

func keeps(t *testing.T, k api.Tree, perm []int, want bool) {
	t.Helper()
	if s, e := tree.Keeps(k, perm); s != want || e != api.OK {
		t.Errorf("Keeps(%v, %v) = %v, %d, not %v", brief(k), perm, s, e, want)
	}
}

func keepsNone(t *testing.T, k api.Tree, perm []int, want api.Errno) {
	t.Helper()
	if s, e := tree.Keeps(k, perm); s || e != want {
		t.Errorf("Keeps(%v, %v) = %v, %d, not %d", brief(k), perm, s, e, want)
	}
}

// identity is the order that changes nothing.
func identity(n int) []int {
	list := make([]int, n)
	for i := range list {
		list[i] = i
	}
	return list
}

// round tells how often a state is greater than the one behind it, the first one being behind the last: what turns keep, and reflections don't, all of them.
func round(in []uint8) uint8 {
	n := 0
	for i, s := range in {
		if next := in[(i+1)%len(in)]; s > next {
			n += int(s-next) * int(next+1)
		}
	}
	return uint8(n % 3)
}

// keepers are functions with unlike symmetries.
var keepers = map[string]struct {
	states, inputs int
	f              func([]uint8) uint8
}{
	"all orders":          {3, 4, func(in []uint8) uint8 { return (in[0] + in[1] + in[2] + in[3]) % 3 }},
	"turns of three":      {3, 3, round},
	"turns of four":       {3, 4, round},
	"turns of five":       {3, 5, round},
	"two and two":         {2, 4, func(in []uint8) uint8 { return in[0]&in[1] ^ in[2]&in[3] }},
	"two, then two":       {2, 4, func(in []uint8) uint8 { return in[0] & in[1] &^ (in[2] & in[3]) }},
	"the first one":       {2, 4, first},
	"the second one":      {3, 4, func(in []uint8) uint8 { return in[1] }},
	"the last two":        {4, 3, func(in []uint8) uint8 { return max(in[1], in[2]) }},
	"greater than":        {3, 2, func(in []uint8) uint8 { return min(in[0], 1) * (in[1] / 2) }},
	"a cross":             {2, 4, func(in []uint8) uint8 { return in[0]&in[2] ^ in[1]&in[3] }},
	"one row among all":   {2, 5, func(in []uint8) uint8 { return in[0] & in[1] &^ in[2] & in[3] &^ in[4] }},
	"the last row's twin": {3, 3, func(in []uint8) uint8 { return in[0] * in[1] % 2 * (in[2] / 2) }},
}

func TestKeepsOfAllOrders(t *testing.T) {
	for what, k := range keepers {
		f := functionOf(k.states, k.inputs, k.f)
		made := f.form()
		kept, not := 0, 0
		for _, perm := range everyOrder(k.inputs) {
			want := f.keeps(perm)
			keeps(t, made, perm, want)
			if want {
				kept++
			} else {
				not++
			}
		}
		if kept == 0 || not == 0 && what != "all orders" {
			t.Errorf("%s: %d and %d", what, kept, not)
		}
	}
}

// TestKeepsTurnsAlone: orders of three, four and five that are not their own way back.
func TestKeepsTurnsAlone(t *testing.T) {
	for inputs := 3; inputs <= 5; inputs++ {
		k := mustOf(t, 3, inputs, round)
		turn := append(identity(inputs)[1:], 0)
		perm := identity(inputs)
		for range inputs {
			keeps(t, k, perm, true)
			mirrored := slices.Clone(perm)
			slices.Reverse(mirrored)
			keeps(t, k, mirrored, false)
			for i := range perm {
				perm[i] = turn[perm[i]]
			}
		}
	}
}

func TestKeepsByChance(t *testing.T) {
	seen := map[bool]int{}
	chance(11, 6, func(d *dice, f function) {
		k := d.loose(f)
		for range 4 {
			perm := d.order(f.inputs)
			want := f.keeps(perm)
			seen[want]++
			keeps(t, k, perm, want)
		}
	})
	if seen[true] < 50 || seen[false] < 50 {
		t.Error(seen)
	}
}

func TestKeepsTheIdentity(t *testing.T) {
	chance(12, 3, func(d *dice, f function) { keeps(t, d.loose(f), identity(f.inputs), true) })
	keeps(t, constant(5, 0, 4), nil, true)
	keeps(t, constant(5, 0, 4), []int{}, true)
}

// TestKeepsNotAtOneRow: a function that differs in one row alone, wherever it stands.
func TestKeepsNotAtOneRow(t *testing.T) {
	perm := []int{1, 2, 0, 3}
	for _, odd := range everyRow(3, 4) {
		f := functionOf(3, 4, func(in []uint8) uint8 {
			if slices.Equal(in, odd) {
				return 1
			}
			return 0
		})
		keeps(t, f.form(), perm, odd[0] == odd[1] && odd[1] == odd[2])
	}
}

func TestKeepsTellsPerm(t *testing.T) {
	k := constant(2, 3, 0)
	for _, a := range []int{math.MinInt, -1, 0, 1, 2, 3, math.MaxInt} {
		for _, b := range []int{-1, 0, 1, 2, 3} {
			for _, c := range []int{-1, 0, 1, 2, 3} {
				perm := []int{a, b, c}
				if slices.Equal(slices.Sorted(slices.Values(perm)), []int{0, 1, 2}) {
					keeps(t, k, perm, true)
				} else {
					keepsNone(t, k, perm, api.ErrPerm)
				}
			}
		}
	}
	for inputs := range 17 {
		for n := range 20 {
			if n != inputs {
				keepsNone(t, constant(2, inputs, 0), identity(n), api.ErrPerm)
			}
		}
	}
	keepsNone(t, constant(2, 0, 0), []int{0}, api.ErrPerm)
	keepsNone(t, constant(2, 2, 0), []int{0, 0}, api.ErrPerm)
}

// TestKeepsTellsBudget: behind ErrPerm, and of the identity too; the power of the states may be more than a number can tell.
func TestKeepsTellsBudget(t *testing.T) {
	for states := 1; states <= 256; states += 3 {
		for inputs := range 17 {
			k := constant(states, inputs, 0)
			if rows := power(states, inputs); rows.IsInt64() && rows.Int64() <= api.MaxAsk {
				continue
			}
			keepsNone(t, k, identity(inputs), api.ErrBudget)
			keepsNone(t, k, identity(inputs-1), api.ErrPerm)
			keepsNone(t, k, make([]int, inputs), api.ErrPerm)
		}
	}
	for _, inputs := range []int{8, 16} { // 2^64 and 2^128
		keepsNone(t, constant(256, inputs, 0), identity(inputs), api.ErrBudget)
	}
}

func TestKeepsAtMostRows(t *testing.T) {
	for inputs, most := range map[int]int{2: 256, 3: 101, 4: 32, 5: 16, 10: 4, 12: 3, 16: 2} {
		turn := append(identity(inputs)[1:], 0)
		keeps(t, constant(most, inputs, 1), turn, true)
		if most < 256 {
			keepsNone(t, constant(most+1, inputs, 1), turn, api.ErrBudget)
		}
		last := slices.Repeat([]uint8{uint8(most - 1)}, inputs)
		last[inputs-1]--
		k := mustOf(t, most, inputs, func(in []uint8) uint8 { // of the last row but one alone it answers something else
			if slices.Equal(in, last) {
				return 1
			}
			return 0
		})
		keeps(t, k, turn, false)
		keeps(t, k, identity(inputs), true)
	}
}
