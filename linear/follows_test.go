package linear_test

import (
	"fmt"
	"slices"
	"testing"

	"vivarium/api"
	"vivarium/linear"
)

// P17.6

// TestTogether: cells that overlap, that are the same, that lie apart, none.
func TestTogether(t *testing.T) {
	d := dice(53)
	for _, a := range append(tori(3), someTori()...) {
		one, two := d.cells(a), d.cells(a)
		apart := unlike(allCells(a), one)
		for _, offsets := range someOffsets() {
			for _, n := range []int{0, 1, 2, 7, api.MaxGen - 1} {
				for _, other := range [][]api.Point{two, apart, one, allCells(a), nil} {
					makes, others := mustJump(t, a, offsets, one, n), mustJump(t, a, offsets, other, n)
					got, e := linear.Jump(a, offsets, unlike(one, other), n)
					has(t, fmt.Sprint(a, short(offsets), n), got, e, unlike(makes, others))
				}
			}
		}
	}
}

// P17.7

func TestLeapsAddUp(t *testing.T) {
	d := dice(59)
	pairs := [][2]int{{0, 0}, {0, 5}, {5, 0}, {1, 1}, {3, 4}, {1 << 20, 1<<20 - 1}, {api.MaxGen - 1, 1}, {1, api.MaxGen - 1}, {api.MaxGen / 2, api.MaxGen / 2}, {0, api.MaxGen}, {123456789012345, 987654321098}, {api.MaxGen / 3, api.MaxGen / 3}}
	for _, a := range append(tori(3), someTori()...) {
		for _, offsets := range someOffsets() {
			cells := d.cells(a)
			for _, c := range pairs {
				want := mustJump(t, a, offsets, cells, c[0]+c[1])
				got, e := linear.Jump(a, offsets, mustJump(t, a, offsets, cells, c[0]), c[1])
				has(t, fmt.Sprint(a, short(offsets), c), got, e, want)
			}
		}
	}
}

// TestLeapsAddUpOnGreatTori: with more cells than a matrix of the model has.
func TestLeapsAddUpOnGreatTori(t *testing.T) {
	d := dice(61)
	for _, a := range []api.Topo{{Kind: api.Torus, W: 50, H: 63}, {Kind: api.Torus, W: 63, H: 50, Turn: api.TurnWide, Shift: 20}, {Kind: api.Torus, W: 45, H: 60, Turn: api.TurnHigh, Shift: 7}} {
		cells := d.cells(a)
		for _, offsets := range [][]api.Point{places(0, 0, 1, 0, 0, 1), places(0, -1, 1, 0, 0, 1, -1, 0)} {
			for _, n := range []int{999, 1 << 30, 123456789012345} {
				want := mustJump(t, a, offsets, cells, n+77)
				got, e := linear.Jump(a, offsets, mustJump(t, a, offsets, cells, 77), n)
				has(t, fmt.Sprint(a, offsets, n), got, e, want)
			}
		}
	}
}

func TestJumpByOneIsNext(t *testing.T) {
	d := dice(67)
	for _, a := range append(tori(4), someTori()...) {
		for _, offsets := range someOffsets() {
			cells := d.cells(a)
			jumpIs(t, a, offsets, cells, 1, mustNext(t, a, offsets, cells))
		}
	}
}

// TestNextByTimes: is Next by b and then by a, where Times has at most MaxPoly offsets.
func TestNextByTimes(t *testing.T) {
	d := dice(71)
	var lists [][]api.Point
	for _, offsets := range someOffsets() {
		if len(offsets) <= 9 {
			lists = append(lists, offsets)
		}
	}
	lists = append(lists, along(8), along(64), d.offsets(8, 1), d.offsets(8, 20), d.offsets(4, api.MaxFar/2))
	done, most := 0, 0
	for _, a := range lists {
		for _, b := range lists {
			both, e := linear.Times(a, b)
			if e != api.OK || len(both) > api.MaxPoly {
				continue
			}
			done, most = done+1, max(most, len(both))
			for _, o := range append(turned(3, 4), someTori()...) {
				cells := d.cells(o)
				got, e := linear.Next(o, both, cells)
				has(t, fmt.Sprint(o, short(a), short(b)), got, e, mustNext(t, o, a, mustNext(t, o, b, cells)))
			}
		}
	}
	if done < 100 || most != api.MaxPoly {
		t.Errorf("%d pairs, of up to %d offsets", done, most)
	}
}

// P17.8

// TestCopiesOnNarrowTori: 2 to the power of k generations are one by the offsets so many times as far, counted cell by cell.
func TestCopiesOnNarrowTori(t *testing.T) {
	d := dice(73)
	for _, a := range append(tori(3), someTori()...) {
		for _, offsets := range [][]api.Point{nil, places(0, 0), places(3, -2), places(0, 0, 1, 0), places(0, -1, 1, 0, 0, 1, -1, 0), d.offsets(5, 3), d.offsets(64, 6)} {
			cells := d.cells(a)
			for _, k := range []int{0, 1, 2, 3, 5, 10, 31, 40, 49, 50} {
				jumpIs(t, a, offsets, cells, 1<<k, modelNext(a, offsets, cells, 1<<k))
			}
		}
	}
}

// TestCopiesOnWideTori: the pattern stands there once for each offset, far apart.
func TestCopiesOnWideTori(t *testing.T) {
	pattern := places(0, 0, 1, 0, 2, 0, 2, -1, 1, -2)
	offsets := places(0, 0, 1, 0, 0, -1, -1, -1)
	for _, a := range []api.Topo{{Kind: api.Torus, W: 1000, H: 1000}, {Kind: api.Torus, W: 900, H: 1100, Turn: api.TurnWide, Shift: 450}, {Kind: api.Torus, W: 1100, H: 900, Turn: api.TurnHigh, Shift: -1}} {
		for k := 3; k <= 8; k++ {
			var want []api.Point
			for _, d := range offsets {
				for _, p := range pattern {
					want = append(want, at(p.X-d.X<<k, p.Y-d.Y<<k))
				}
			}
			jumpIs(t, a, offsets, pattern, 1<<k, sorted(want))
		}
	}
}

// W6: what is found by leaps is what one generation behind the other makes, of a pattern that grows for long.
func TestManyGenerationsOneByOne(t *testing.T) {
	a := api.Topo{Kind: api.Torus, W: 37, H: 29, Turn: api.TurnWide, Shift: 11}
	offsets, living := places(0, -1, 1, 0, 0, 1, -1, 0, 0, 0), places(3, 4, -5, -6, 0, 0)
	first := slices.Clone(living)
	for n := 1; n <= 300; n++ {
		living = mustNext(t, a, offsets, living)
		if n%7 == 0 || n > 290 {
			jumpIs(t, a, offsets, first, n, living)
		}
	}
}
