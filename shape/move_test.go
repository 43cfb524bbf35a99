package shape_test

import (
	"math"
	"testing"

	"vivarium/api"
)

// P24.4: Move.

func TestMoveIsTheModels(t *testing.T) {
	d := dice(21)
	look := func(w world) {
		for k := range turns {
			x, y := d.below(9)-4, d.below(2000000)-1000000
			moves(t, w.shape(), mapOf(k, x, y), w.turned(k, x, y).shape())
		}
	}
	for w := range grids(3, 2, 3) {
		look(w)
	}
	for range 3000 {
		look(d.world())
	}
}

// wrongMaps may not be.
func wrongMaps() []api.Iso {
	list := []api.Iso{{}, {Flip: true}, {Turn: 2}, {Turn: 0.5i}, {Turn: 1 + 1i}, {Turn: complex(math.NaN(), 0)}, {Turn: complex(1, math.NaN())}, {Turn: complex(math.Inf(1), 0)}}
	for _, x := range []float64{0.5, -0.25, math.NaN(), math.Inf(1), math.Inf(-1), far + 1, -far - 1, far + 0.5, 1 << 60} {
		list = append(list, api.Iso{Turn: 1, Move: complex(x, 0)}, api.Iso{Turn: -1i, Flip: true, Move: complex(0, x)})
	}
	return list
}

// TestMoveByMapsThatMayNotBe: of no cells too, and ahead of far places.
func TestMoveByMapsThatMayNotBe(t *testing.T) {
	for _, m := range wrongMaps() {
		for _, s := range []api.Shape{of(), {}, glider(), of(cell(far, far, 1)), of(cell(-far, -far, 1)), of(line(0, 0, many, 1)...)} {
			noMove(t, s, m, api.ErrIso)
		}
	}
}

// TestMoveByNoughtsWithASign: they are noughts.
func TestMoveByNoughtsWithASign(t *testing.T) {
	nought := math.Copysign(0, -1)
	for _, m := range []api.Iso{{Turn: complex(1, nought), Move: complex(nought, nought)}, {Turn: complex(nought, -1), Flip: true, Move: complex(nought, 0)}} {
		k := 0
		if m.Flip {
			k = 7
		}
		moves(t, glider(), m, worldOf(glider().Cells...).turned(k, 0, 0).shape())
	}
}

func TestMoveOfNothing(t *testing.T) {
	for k := range turns {
		moves(t, of(), mapOf(k, 3, -4), of())
		moves(t, api.Shape{}, mapOf(k, far, -far), of())
	}
}

// TestMoveUpToMaxFar: of each part, each way, to just there and one further.
func TestMoveUpToMaxFar(t *testing.T) {
	w := worldOf(glider().Cells...)
	for k := range turns {
		first, last := w.turned(k, 0, 0).corner()
		for _, x := range []int{far - last.X, -far - first.X, 0} {
			for _, y := range []int{far - last.Y, -far - first.Y, 0} {
				if x > far || y > far || x < -far || y < -far {
					continue // no such map
				}
				moves(t, glider(), mapOf(k, x, y), w.turned(k, x, y).shape())
			}
		}
		away := func(x, y int) { // one step further, if there is such a map
			if max(x, y) <= far && min(x, y) >= -far {
				noMove(t, glider(), mapOf(k, x, y), api.ErrFar)
			}
		}
		away(far-last.X+1, 0)
		away(-far-first.X-1, 0)
		away(0, far-last.Y+1)
		away(0, -far-first.Y-1)
	}
}

// TestMoveOfEachCellThatGoesFar: any one of them is enough.
func TestMoveOfEachCellThatGoesFar(t *testing.T) {
	for k := range turns {
		for _, p := range []api.Point{{X: far}, {X: -far}, {Y: far}, {Y: -far}} {
			u, v := turns[k](p.X, p.Y)
			x, y := sign(u), sign(v) // one step further out
			for _, others := range [][]api.Cell{nil, {cell(1, 1, 1)}, {cell(0, 1, 1), cell(1, 1, 1), cell(0, 2, 1)}} {
				s := mustMake(t, append([]api.Cell{cell(p.X, p.Y, 1)}, others...)...)
				noMove(t, s, mapOf(k, x, y), api.ErrFar)
				moves(t, s, mapOf(k, 0, 0), worldOf(s.Cells...).turned(k, 0, 0).shape())
				moves(t, s, mapOf(k, -x, -y), worldOf(s.Cells...).turned(k, -x, -y).shape())
			}
		}
	}
}

func sign(n int) int {
	switch {
	case n < 0:
		return -1
	case n > 0:
		return 1
	}
	return 0
}

// TestMoveAcrossThePlane: from one end of what is near to the other.
func TestMoveAcrossThePlane(t *testing.T) {
	moves(t, of(cell(-far, -far, 7)), mapOf(0, far, far), of(cell(0, 0, 7)))
	moves(t, of(cell(-far, far, 7)), mapOf(2, 0, 0), of(cell(far, -far, 7)))
	noMove(t, of(cell(-far, far, 7)), mapOf(2, 1, 0), api.ErrFar)
	noMove(t, of(cell(-far, far, 7)), mapOf(2, 0, -1), api.ErrFar)
	moves(t, of(cell(-far, 0, 1), cell(far, 0, 2)), mapOf(6, 0, 5), of(cell(-far, 5, 2), cell(far, 5, 1)))
}

func TestMoveOfAsManyAsMayBe(t *testing.T) {
	w := worldOf(square(128, 128)...)
	for k := range turns {
		moves(t, of(square(128, 128)...), mapOf(k, -5, 6), w.turned(k, -5, 6).shape())
	}
}
