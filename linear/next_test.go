package linear_test

import (
	"fmt"
	"testing"

	"vivarium/api"
	"vivarium/linear"
)

// P17.3, Next: against the sum counted cell by cell.

func nextAsCounted(test *testing.T, t api.Topo, offsets, cells []api.Point) {
	test.Helper()
	got, e := linear.Next(t, offsets, cells)
	has(test, fmt.Sprint("Next ", t, short(offsets), short(cells)), got, e, modelNext(t, offsets, cells, 1))
}

// TestNextOnSmallTori: all with sides up to 4, each shift; one cell, one column and one row among them.
func TestNextOnSmallTori(t *testing.T) {
	d := dice(13)
	for _, a := range tori(4) {
		for _, offsets := range append(someOffsets(), d.offsets(3, 2), d.offsets(8, 3), d.offsets(2, api.MaxFar)) {
			nextAsCounted(t, a, offsets, d.cells(a))
			nextAsCounted(t, a, offsets, allCells(a))
			nextAsCounted(t, a, offsets, nil)
		}
	}
}

// TestNextOfEachOffset: each near offset alone, each cell alone, so that none goes the wrong way.
func TestNextOfEachOffset(t *testing.T) {
	for _, a := range append(turned(3, 2), turned(2, 3)...) {
		for x := -4; x <= 4; x++ {
			for y := -4; y <= 4; y++ {
				for _, c := range allCells(a) {
					nextAsCounted(t, a, places(x, y), []api.Point{c})
				}
			}
		}
	}
}

func TestNextOnGreaterTori(t *testing.T) {
	d := dice(17)
	for _, a := range append(someTori(), api.Topo{Kind: api.Torus, W: 40, H: 33}, api.Topo{Kind: api.Torus, W: 33, H: 40, Turn: api.TurnWide, Shift: 20}, api.Topo{Kind: api.Torus, W: 33, H: 40, Turn: api.TurnHigh, Shift: -39}, api.Topo{Kind: api.Torus, W: 500, H: 1}, api.Topo{Kind: api.Torus, W: 1, H: 500}) {
		for _, offsets := range someOffsets() {
			nextAsCounted(t, a, offsets, d.cells(a))
		}
	}
}

// TestNextOfOffsetsThatComeToOneCell: they count twice, so not at all; three count as one.
func TestNextOfOffsetsThatComeToOneCell(t *testing.T) {
	one := api.Topo{Kind: api.Torus, W: 1, H: 1}
	row := api.Topo{Kind: api.Torus, W: 4, H: 1}
	column := api.Topo{Kind: api.Torus, W: 1, H: 4}
	shifted := api.Topo{Kind: api.Torus, W: 4, H: 2, Turn: api.TurnWide, Shift: 1}
	for _, c := range []struct {
		t             api.Topo
		offsets, want []api.Point
	}{
		{one, places(0, 0, 5, -7), nil},
		{one, places(0, 0, 5, -7, api.MaxFar, api.MaxFar), places(0, 0)},
		{row, places(1, 0, 1, 3), nil},
		{row, places(1, 0, 5, 0, -3, 9), places(-1, 0)},
		{row, places(1, 0, -3, 0, 2, 0), places(-2, 0)},
		{column, places(0, 1, 8, 5), nil},
		{column, places(0, 1, 8, 5, -9, -3), places(0, -1)},
		{shifted, places(0, 0, 1, 2), nil},
		{shifted, places(0, 0, 1, 2, 0, 2), places(1, 0)},
	} {
		got, e := linear.Next(c.t, c.offsets, places(0, 0))
		has(t, fmt.Sprint(c.t, c.offsets), got, e, c.want)
	}
}

// TestNextOfOffsetsAsFarAsMayBe: to all ends, of sides that go into MaxFar and of others.
func TestNextOfOffsetsAsFarAsMayBe(t *testing.T) {
	d := dice(19)
	ends := places(api.MaxFar, 0, -api.MaxFar, 0, 0, api.MaxFar, 0, -api.MaxFar, api.MaxFar, api.MaxFar, -api.MaxFar, -api.MaxFar, api.MaxFar, -api.MaxFar, -api.MaxFar, api.MaxFar, api.MaxFar-1, 1)
	for _, a := range append(someTori(), tori(3)...) {
		cells := d.cells(a)
		for _, end := range ends {
			nextAsCounted(t, a, []api.Point{end}, cells)
		}
		nextAsCounted(t, a, ends, cells)
	}
}
