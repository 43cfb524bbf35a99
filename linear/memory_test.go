package linear_test

import (
	"fmt"
	"slices"
	"sync"
	"testing"

	"vivarium/api"
	"vivarium/linear"
)

// DOC.md's 'Memory': what is handed in stays as it is, its spare room too; what is answered is new. And R2: the same call answers the same.

// roomy is a list with spare room behind it that a call must not touch.
func roomy(list []api.Point) []api.Point {
	return append(slices.Clone(list), at(77, 88), at(99, 11))[:len(list)]
}

// whole is a list and the spare room behind it.
func whole(list []api.Point) []api.Point { return list[:cap(list)] }

// calls are calls of each kind that are handed two lists.
func calls() map[string]func(a, b []api.Point) ([]api.Point, api.Errno) {
	all := map[string]func(a, b []api.Point) ([]api.Point, api.Errno){
		"Check": func(a, b []api.Point) ([]api.Point, api.Errno) { return nil, linear.Check(a) },
		"Times": linear.Times,
	}
	for _, t := range []api.Topo{{Kind: api.Torus, W: 7, H: 5}, {Kind: api.Torus, W: 5, H: 7}, {Kind: api.Torus, W: 7, H: 5, Turn: api.TurnWide, Shift: 2}, {Kind: api.Torus, W: 7, H: 5, Turn: api.TurnHigh, Shift: 2}} {
		all[fmt.Sprint("Next ", t)] = func(a, b []api.Point) ([]api.Point, api.Errno) { return linear.Next(t, a, b) }
		for _, n := range []int{0, 1, 5} {
			all[fmt.Sprint("Jump ", t, n)] = func(a, b []api.Point) ([]api.Point, api.Errno) { return linear.Jump(t, a, b, n) }
			all[fmt.Sprint("Power ", t, n)] = func(a, b []api.Point) ([]api.Point, api.Errno) { return linear.Power(t, a, n) }
		}
	}
	return all
}

func TestListsThatAreHandedInStay(t *testing.T) {
	for name, call := range calls() {
		for _, lists := range [][2][]api.Point{
			{places(1, 0, 0, 0, 0, 1), places(2, 2, 0, 0, -1, -2)},
			{places(0, 0), places(2, 2, 0, 0, -1, -2)},
			{places(1, 0, 1, 0), places(2, 2, 0, 0)}, // refused
			{places(1, 0), places(99, 99, 2, 2, 2, 2)},
			{nil, places(1, 1, 0, 0)},
		} {
			a, b := roomy(lists[0]), roomy(lists[1])
			wasA, wasB := slices.Clone(whole(a)), slices.Clone(whole(b))
			answer, _ := call(a, b)
			if !slices.Equal(whole(a), wasA) || !slices.Equal(whole(b), wasB) {
				t.Errorf("%s: what was handed in was changed", name)
			}
			said := slices.Clone(answer)
			for i := range whole(a) {
				whole(a)[i] = at(-3, -3)
			}
			for i := range whole(b) {
				whole(b)[i] = at(-4, -4)
			}
			if !slices.Equal(answer, said) {
				t.Errorf("%s: the answer shares memory with what was handed in", name)
			}
		}
	}
}

func TestAnswersAreNew(t *testing.T) {
	for name, call := range calls() {
		a, b := places(1, 0, 0, 0, 0, 1), places(-1, -2, 0, 0, 2, 2)
		wasA, wasB := slices.Clone(a), slices.Clone(b)
		one, _ := call(a, b)
		two, _ := call(a, b)
		if !slices.Equal(one, two) {
			t.Errorf("%s: two answers", name)
		}
		said := slices.Clone(two)
		for i := range whole(one) {
			whole(one)[i] = at(-3, -3)
		}
		if !slices.Equal(two, said) || !slices.Equal(a, wasA) || !slices.Equal(b, wasB) {
			t.Errorf("%s: the answer shares memory", name)
		}
		if again, _ := call(a, b); !slices.Equal(again, said) {
			t.Errorf("%s: an answer that was written over is kept", name)
		}
	}
}

// TestOneListForBoth: offsets and cells in one memory.
func TestOneListForBoth(t *testing.T) {
	for name, call := range calls() {
		list := places(1, 0, 0, 0, 0, 1, -2, 2)
		want, e := call(slices.Clone(list), slices.Clone(list))
		got, f := call(list, list)
		if !slices.Equal(got, want) || e != f {
			t.Errorf("%s: %v, not %v", name, got, want)
		}
	}
}

func TestLineOnlyReads(t *testing.T) {
	list := append([]int{5, -3, 0}, 1, 2)[:3]
	was := slices.Clone(list[:cap(list)])
	for n := range 20 {
		lineIs(t, list, n, 3*n, true)
	}
	if !slices.Equal(list[:cap(list)], was) {
		t.Error("the offsets were changed")
	}
}

// TestListsInAnyOrder: what is answered hangs on which there are, not on how they stand.
func TestListsInAnyOrder(t *testing.T) {
	d := dice(79)
	for name, call := range calls() {
		a, b := places(1, 0, 0, 0, 0, 1, -3, 2), places(-1, -2, 0, 0, 2, 2, 1, 0, 0, 1)
		want, e := call(a, b)
		for range 20 {
			for _, list := range [][]api.Point{a, b} {
				for i := range list {
					j := d.below(i + 1)
					list[i], list[j] = list[j], list[i]
				}
			}
			if got, f := call(a, b); !slices.Equal(got, want) || e != f {
				t.Errorf("%s: %v, %d, not %v, %d", name, got, f, want, e)
			}
		}
	}
}

// TestCallsBesideEachOther: calls that share their lists, in several goroutines, answer what each answers alone.
func TestCallsBesideEachOther(t *testing.T) {
	a, b := places(1, 0, 0, 0, 0, 1), places(-1, -2, 0, 0, 2, 2)
	for name, call := range calls() {
		want, e := call(a, b)
		var all sync.WaitGroup
		for range 8 {
			all.Go(func() {
				if got, f := call(a, b); !slices.Equal(got, want) || f != e {
					t.Errorf("%s: %v, not %v", name, got, want)
				}
			})
		}
		all.Wait()
	}
}
