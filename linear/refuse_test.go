package linear_test

import (
	"cmp"
	"fmt"
	"math"
	"testing"

	"vivarium/api"
	"vivarium/linear"
)

// The errors of P17.3 and P17.4, and which counts where several would: the arguments from the left, each by its own row; the budget last.

type topoCase struct {
	t api.Topo
	e api.Errno
}

// wrongTopos are those that no sum goes on.
func wrongTopos() []topoCase {
	return []topoCase{
		{api.Topo{}, api.ErrTopo},
		{api.Topo{Kind: 6, W: 5, H: 1}, api.ErrTopo},
		{api.Topo{Kind: api.Torus, W: -1, H: 1}, api.ErrTopo},
		{api.Topo{Kind: api.Torus, W: 5, H: api.MaxSide + 1}, api.ErrTopo},
		{api.Topo{Kind: api.Torus, W: math.MinInt, H: math.MaxInt}, api.ErrTopo},
		{api.Topo{Kind: api.Torus, W: 5, H: 1, Shift: 1}, api.ErrTopo},
		{api.Topo{Kind: api.Torus, W: 5, H: 1, Turn: api.TurnWide}, api.ErrTopo},
		{api.Topo{Kind: api.Torus, W: 5, H: 1, Turn: api.TurnWide, Shift: 5}, api.ErrTopo},
		{api.Topo{Kind: api.Torus, W: 5, H: 1, Turn: api.TurnHigh, Shift: 1}, api.ErrTopo},
		{api.Topo{Kind: api.Torus, W: 5, H: 0, Turn: api.TurnWide, Shift: 1}, api.ErrTopo}, // ahead of ErrEndless
		{api.Topo{Kind: api.Torus, W: 5, H: 1, Turn: 3, Shift: 1}, api.ErrTopo},
		{api.Topo{Kind: api.Klein, W: 5, H: 0, Turn: api.TurnWide}, api.ErrTopo},
		{api.Topo{Kind: api.Klein, W: 5, H: 1}, api.ErrTopo}, // ahead of ErrKind
		{api.Topo{Kind: api.Sphere, W: 5, H: 1}, api.ErrTopo},
		{api.Topo{Kind: api.Plane, W: 5, H: 1}, api.ErrKind},
		{api.Topo{Kind: api.Plane}, api.ErrKind}, // ahead of ErrEndless
		{api.Topo{Kind: api.Plane, W: 5}, api.ErrKind},
		{api.Topo{Kind: api.Klein, W: 5, H: 2, Turn: api.TurnHigh}, api.ErrKind},
		{api.Topo{Kind: api.Cross, W: 5, H: 2}, api.ErrKind},
		{api.Topo{Kind: api.Sphere, W: 5, H: 5}, api.ErrKind},
		{api.Topo{Kind: api.Torus}, api.ErrEndless},
		{api.Topo{Kind: api.Torus, W: 5}, api.ErrEndless},
		{api.Topo{Kind: api.Torus, H: 5}, api.ErrEndless},
	}
}

// greatTopos have more than MaxCells cells.
func greatTopos() []topoCase {
	return []topoCase{
		{api.Topo{Kind: api.Torus, W: 17, H: 61681}, api.ErrBudget}, // one more
		{api.Topo{Kind: api.Torus, W: 61681, H: 17, Turn: api.TurnHigh, Shift: -16}, api.ErrBudget},
		{api.Topo{Kind: api.Torus, W: 1025, H: 1024, Turn: api.TurnWide, Shift: 1}, api.ErrBudget},
		{api.Topo{Kind: api.Torus, W: api.MaxSide, H: api.MaxSide}, api.ErrBudget},
	}
}

type cellsCase struct {
	cells []api.Point
	e     api.Errno
}

// cellsCases: the places are those of a torus of 5 times 3, and of the great ones.
func cellsCases() []cellsCase {
	far := api.MaxFar
	return []cellsCase{
		{nil, api.OK},
		{places(2, 1, -2, -1, 0, 0), api.OK},
		{places(0, 0, 40000, 0), api.ErrPlace},
		{places(0, -40000), api.ErrPlace},
		{places(far, 0), api.ErrPlace},
		{places(0, far+1), api.ErrPlace}, // not ErrFar: it is no place of the grid
		{places(math.MinInt, 0, 0, math.MaxInt), api.ErrPlace},
		{places(0, 0, 0, 0, 0, 40000), api.ErrPlace}, // whichever comes first
		{places(40000, 0, 40000, 0), api.ErrPlace},
		{places(0, 0, 0, 0), api.ErrMany},
		{places(1, 0, 0, 1, -1, 0, 0, 1), api.ErrMany},
		{make([]api.Point, 1000), api.ErrMany},
	}
}

type gensCase struct {
	n int
	e api.Errno
}

func gensCases() []gensCase {
	return []gensCase{{0, api.OK}, {1, api.OK}, {api.MaxGen, api.OK}, {-1, api.ErrArg}, {math.MinInt, api.ErrArg}, {api.MaxGen + 1, api.ErrFar}, {math.MaxInt, api.ErrFar}}
}

// topoCases are wrong ones, great ones, and one that may be.
func topoCases() []topoCase {
	small := topoCase{api.Topo{Kind: api.Torus, W: 5, H: 3, Turn: api.TurnWide, Shift: -2}, api.OK}
	return append(append(wrongTopos(), small), greatTopos()...)
}

// early is the error of a topology that counts ahead of the other arguments'.
func (c topoCase) early() api.Errno {
	if c.e == api.ErrBudget {
		return api.OK
	}
	return c.e
}

// offsetsCases are wrong ones, and some that may be.
func offsetsCases() []offsetsCase {
	return append(wrongOffsets(), offsetsCase{nil, api.OK}, offsetsCase{places(0, 0, 1, 0), api.OK}, offsetsCase{along(64), api.OK})
}

// TestErrorsByTheirOrder goes through all of these together.
func TestErrorsByTheirOrder(t *testing.T) {
	for _, a := range topoCases() {
		for _, b := range offsetsCases() {
			for _, n := range gensCases() {
				got, e := linear.Power(a.t, b.offsets, n.n)
				told(t, fmt.Sprint("Power ", a.t, short(b.offsets), n.n), got, e, cmp.Or(a.early(), b.e, n.e, a.e))
			}
			for _, c := range cellsCases() {
				got, e := linear.Next(a.t, b.offsets, c.cells)
				told(t, fmt.Sprint("Next ", a.t, short(b.offsets), short(c.cells)), got, e, cmp.Or(a.early(), b.e, c.e, a.e))
				for _, n := range gensCases() {
					got, e := linear.Jump(a.t, b.offsets, c.cells, n.n)
					told(t, fmt.Sprint("Jump ", a.t, short(b.offsets), short(c.cells), n.n), got, e, cmp.Or(a.early(), b.e, c.e, n.e, a.e))
				}
			}
		}
	}
}

// told looks at the error alone where there must be none.
func told(test *testing.T, what string, got []api.Point, e, want api.Errno) {
	test.Helper()
	if want != api.OK {
		refused(test, what, got, e, want)
	} else if e != api.OK {
		test.Errorf("%s: %d", what, e)
	}
}

// TestPlacesAtTheEdges: those of the grid's corners, and those one step outside.
func TestPlacesAtTheEdges(t *testing.T) {
	for _, a := range append(tori(4), api.Topo{Kind: api.Torus, W: api.MaxSide, H: 1}, api.Topo{Kind: api.Torus, W: 1, H: api.MaxSide}, api.Topo{Kind: api.Torus, W: 1024, H: 1024, Turn: api.TurnHigh, Shift: 1023}) {
		x, y := -(a.W / 2), -(a.H / 2)
		right, low := x+a.W-1, y+a.H-1
		for _, p := range places(x, y, right, y, x, low, right, low) {
			got, e := linear.Next(a, places(0, 0), []api.Point{p})
			has(t, fmt.Sprint(a, p), got, e, []api.Point{p})
		}
		for _, p := range places(x-1, y, x, y-1, right+1, y, right, y-1, x-1, low, x, low+1, right+1, low, right, low+1) {
			got, e := linear.Next(a, places(0, 0), []api.Point{p})
			refused(t, fmt.Sprint("Next ", a, p), got, e, api.ErrPlace)
			got, e = linear.Jump(a, nil, append(places(x, y), p), 0)
			refused(t, fmt.Sprint("Jump ", a, p), got, e, api.ErrPlace)
		}
	}
}

// TestJustMaxCells: the greatest tori are gone on.
func TestJustMaxCells(t *testing.T) {
	for _, a := range []api.Topo{{Kind: api.Torus, W: 1024, H: 1024}, {Kind: api.Torus, W: 16, H: api.MaxSide, Turn: api.TurnWide, Shift: 3}, {Kind: api.Torus, W: api.MaxSide, H: 16, Turn: api.TurnHigh, Shift: 3}} {
		got, e := linear.Next(a, places(0, 0, 1, 0), places(0, 0))
		has(t, fmt.Sprint("Next ", a), got, e, places(-1, 0, 0, 0))
		got, e = linear.Jump(a, places(0, 0, 0, -1), places(1, 1), 1)
		has(t, fmt.Sprint("Jump ", a), got, e, places(1, 1, 1, 2))
		got, e = linear.Power(a, places(5, 7), 1)
		has(t, fmt.Sprint("Power ", a), got, e, places(-5, -7))
	}
}
