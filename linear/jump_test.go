package linear_test

import (
	"fmt"
	"testing"

	"vivarium/api"
	"vivarium/linear"
)

// P17.3, Jump; P17.4, Power.

func jumpIs(test *testing.T, t api.Topo, offsets, cells []api.Point, n int, want []api.Point) {
	test.Helper()
	got, e := linear.Jump(t, offsets, cells, n)
	has(test, fmt.Sprint("Jump ", t, short(offsets), short(cells), n), got, e, want)
}

// TestJumpOfNoGenerations: the cells, by rows, in whatever order they are handed in.
func TestJumpOfNoGenerations(t *testing.T) {
	d := dice(23)
	for _, a := range append(tori(4), someTori()...) {
		cells := d.cells(a)
		for _, offsets := range someOffsets() {
			jumpIs(t, a, offsets, cells, 0, sorted(cells))
		}
		jumpIs(t, a, nil, nil, 0, nil)
	}
}

// TestJumpOfFewGenerations: as often as that one generation, counted and by Next.
func TestJumpOfFewGenerations(t *testing.T) {
	d := dice(29)
	for _, a := range append(tori(3), someTori()...) {
		for _, offsets := range someOffsets() {
			cells := d.cells(a)
			counted, next := sorted(cells), sorted(cells)
			for n := range 12 {
				jumpIs(t, a, offsets, cells, n, counted)
				jumpIs(t, a, offsets, cells, n, next)
				counted, next = modelNext(a, offsets, counted, 1), mustNext(t, a, offsets, next)
			}
		}
	}
}

// greatOnes are numbers of generations with one digit in twos, with all, and with many.
func greatOnes() []int {
	all := []int{api.MaxGen, api.MaxGen - 1, api.MaxGen - 2, api.MaxGen/2 + 1, api.MaxGen / 3, 999999999999999, 123456789012345, 1<<20 - 1, 1<<40 + 1<<20 + 1}
	for k := range 50 {
		all = append(all, 1<<k)
	}
	return all
}

// TestJumpOfManyGenerations: against powers of the matrix of one generation.
func TestJumpOfManyGenerations(t *testing.T) {
	d := dice(31)
	for _, a := range append(tori(3), someTori()...) {
		for _, offsets := range someOffsets() {
			for range 3 {
				great := greatOnes()
				n := great[d.below(len(great))]
				cells := d.cells(a)
				jumpIs(t, a, offsets, cells, n, modelJump(a, offsets, cells, n))
			}
		}
	}
	a := api.Topo{Kind: api.Torus, W: 9, H: 7, Turn: api.TurnHigh, Shift: -2}
	for _, n := range greatOnes() {
		cells := d.cells(a)
		jumpIs(t, a, places(0, -1, 1, 0, 0, 1, -1, 0, 0, 0), cells, n, modelJump(a, places(0, -1, 1, 0, 0, 1, -1, 0, 0, 0), cells, n))
	}
}

// TestJumpOnATorusOfTwos: where both sides are powers of two, an even number of offsets leaves nothing, an odd one moves all.
func TestJumpOnATorusOfTwos(t *testing.T) {
	d := dice(37)
	a := api.Topo{Kind: api.Torus, W: 32, H: 16}
	cells := d.cells(a)
	even, odd := places(0, 0, 1, 0, 0, 1, 1, 1), places(0, 0, 1, 0, 0, 1)
	jumpIs(t, a, even, cells, 32, nil)
	jumpIs(t, a, even, cells, api.MaxGen-1, nil)
	jumpIs(t, a, odd, cells, 32, sorted(cells))
	jumpIs(t, a, odd, cells, api.MaxGen, sorted(cells))
	jumpIs(t, a, odd, cells, api.MaxGen-31, mustNext(t, a, odd, cells))
}

// TestJumpByOneOffset: n generations move n times as far.
func TestJumpByOneOffset(t *testing.T) {
	a := api.Topo{Kind: api.Torus, W: 1000, H: 1000}
	jumpIs(t, a, places(1, 0), places(0, 0, 3, 4), 1003, places(-3, 0, 0, 4))
	jumpIs(t, a, places(0, -1), places(0, 0), 1000*1000*1000+7, places(0, 7))
	jumpIs(t, a, places(-3, 2), places(0, 0), api.MaxGen, places(mod(3*api.MaxGen+500, 1000)-500, mod(-2*api.MaxGen+500, 1000)-500))
	// With the height turned by 1 the way along a row goes down through all rows.
	high := api.Topo{Kind: api.Torus, W: 10, H: 7, Turn: api.TurnHigh, Shift: 1}
	jumpIs(t, high, places(1, 0), places(0, 0), 10, places(0, 1))
	jumpIs(t, high, places(1, 0), places(0, 0), 70, places(0, 0))
	wide := api.Topo{Kind: api.Torus, W: 10, H: 7, Turn: api.TurnWide, Shift: 3}
	jumpIs(t, wide, places(0, 1), places(0, 0), 7, places(3, 0))
	jumpIs(t, wide, places(0, 1), places(0, 0), 70, places(0, 0))
}

func TestPowerIsJumpOfTheOneCell(t *testing.T) {
	for _, a := range append(tori(3), someTori()...) {
		for _, offsets := range someOffsets() {
			for _, n := range []int{0, 1, 2, 3, 100, 1<<31 - 1, api.MaxGen - 1, api.MaxGen} {
				got, e := linear.Power(a, offsets, n)
				what := fmt.Sprint("Power ", a, short(offsets), n)
				has(t, what, got, e, mustJump(t, a, offsets, places(0, 0), n))
				has(t, what, got, e, modelJump(a, offsets, places(0, 0), n))
			}
		}
	}
}
