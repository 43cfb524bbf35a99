package fold_test

import (
	"testing"

	"vivarium/api"
)

// P6.1: Cell.

func TestCellIsTheModelsOnSmallGrids(t *testing.T) {
	seen := 0
	for _, a := range smallOnes(5) {
		for _, p := range window(13) {
			switch {
			case isGlued(a):
				cell(t, a, p, modelCell(a, p))
			case ofGrid(a, p):
				cell(t, a, p, p)
			default:
				noCell(t, a, p, api.ErrOut)
			}
			seen++
		}
	}
	if seen < 100000 {
		t.Error(seen)
	}
}

func TestCellIsTheModelsOnGreatGrids(t *testing.T) {
	for _, a := range greatOnes() {
		for _, p := range placesAbout(a) {
			switch {
			case isGlued(a):
				cell(t, a, p, modelCell(a, p))
			case ofGrid(a, p):
				cell(t, a, p, p)
			default:
				noCell(t, a, p, api.ErrOut)
			}
		}
	}
}

// Places are put together by A and B alone, and each heap has one place of the grid: the cell of all of them.
func TestCellIsTheOnePlaceOfTheGridThatIsTheSameCell(t *testing.T) {
	const most = 16 // of the window; nearer ones are looked at, for a heap may hang together further out
	for _, a := range gluedOnes(4) {
		heaps := heapsOf(a, most)
		cells := map[int]api.Point{}
		for _, p := range window(5) {
			if !ofGrid(a, p) {
				continue
			}
			if q, twice := cells[heaps(p)]; twice && q != p {
				t.Fatalf("%v: %v and %v are one cell", a, p, q)
			}
			cells[heaps(p)] = p
		}
		for _, p := range window(5) {
			want, is := cells[heaps(p)]
			if !is {
				t.Fatalf("%v: %v is one cell with none of the grid", a, p)
			}
			cell(t, a, p, want)
		}
	}
}

// heapsOf tells which heap a place of the window is in.
func heapsOf(a api.Topo, most int) func(api.Point) int {
	wide := 2*most + 1
	up := make([]int, wide*wide)
	number := func(p api.Point) int { return (p.Y+most)*wide + p.X + most }
	var top func(int) int
	top = func(n int) int {
		if up[n] != n {
			up[n] = top(up[n])
		}
		return up[n]
	}
	for n := range up {
		up[n] = n
	}
	left, upper := glued(a)
	for _, m := range []*plan{left, upper} {
		for _, p := range window(most) {
			if m == nil {
				continue
			}
			q := out(a, m.at(home(a, p)))
			if -most <= q.X && q.X <= most && -most <= q.Y && q.Y <= most {
				up[top(number(p))] = top(number(q))
			}
		}
	}
	return func(p api.Point) int { return top(number(p)) }
}

func TestCellOfFarPlaces(t *testing.T) {
	for _, a := range append(smallOnes(2), greatOnes()...) {
		for _, p := range farPlaces() {
			noCell(t, a, p, api.ErrFar)
		}
	}
}

func TestCellGoesUpToMaxFar(t *testing.T) {
	// 2^40 is one more than a number that 3 divides, and X goes from -1 to 1
	cell(t, torus, at(far, 0), at(1, 0))
	cell(t, torus, at(-far, far), at(-1, 0))
	cell(t, cross, at(far, -far), at(1, -1)) // an odd number of tiles to the right, an even one up
	noCell(t, torus, at(far+1, 0), api.ErrFar)
	noCell(t, torus, at(0, -far-1), api.ErrFar)
	noCell(t, piece, at(far, 0), api.ErrOut)
	noCell(t, piece, at(far+1, 0), api.ErrFar)
	noCell(t, sphere, at(0, -far), api.ErrOut)
	noCell(t, sphere, at(0, -far-1), api.ErrFar)
	for _, kind := range []uint8{api.Plane, api.Torus} {
		for _, n := range []int{-far, far} {
			cell(t, api.Topo{Kind: kind}, at(n, -n), at(n, -n))
			cell(t, api.Topo{Kind: kind, W: 3}, at(1, n), at(1, n))
			cell(t, api.Topo{Kind: kind, H: 3}, at(n, 1), at(n, 1))
			noCell(t, api.Topo{Kind: kind}, at(2*n, 0), api.ErrFar)
		}
	}
}

// A shift of nearly the greatest side, done as often as a place can be away.
func TestCellOfTheGreatestShifts(t *testing.T) {
	const most = api.MaxSide
	wide := api.Topo{Kind: api.Torus, W: most, H: 1, Turn: api.TurnWide, Shift: most - 1}
	cell(t, wide, at(0, 3), at(3, 0)) // each row lies one less than a whole side aside
	cell(t, wide, at(0, far), at(0, 0))
	cell(t, wide, at(0, far-5), at(-5, 0))
	wide.Shift = 1 - most
	cell(t, wide, at(0, 3), at(-3, 0))
	cell(t, wide, at(far, -far+7), at(-7, 0))
	high := api.Topo{Kind: api.Torus, W: 1, H: most, Turn: api.TurnHigh, Shift: 1 - most}
	cell(t, high, at(far-2, 9), at(0, 11))
	klein := api.Topo{Kind: api.Klein, W: most, H: 1, Turn: api.TurnWide, Shift: most - 1}
	cell(t, klein, at(0, 1), at(-2, 0)) // home number 2^15, turned over and moved: 2^17 - 2 - 2^15
	cell(t, klein, at(0, far), at(0, 0))
	cell(t, klein, at(1, far-1), at(-3, 0))
}

func TestSidesOfOneCell(t *testing.T) {
	for _, a := range []api.Topo{
		{Kind: api.Torus, W: 1, H: 1},
		{Kind: api.Klein, W: 1, H: 1, Turn: api.TurnWide},
		{Kind: api.Klein, W: 1, H: 1, Turn: api.TurnHigh},
		{Kind: api.Cross, W: 1, H: 1},
	} {
		for _, p := range window(3) {
			cell(t, a, p, at(0, 0))
			cell(t, a, at(p.X*(far/3), p.Y*(far/3)), at(0, 0))
		}
	}
	for _, kind := range []uint8{api.Plane, api.Sphere} {
		for _, p := range window(3) {
			if p == at(0, 0) {
				cell(t, api.Topo{Kind: kind, W: 1, H: 1}, p, p)
			} else {
				noCell(t, api.Topo{Kind: kind, W: 1, H: 1}, p, api.ErrOut)
			}
		}
	}
}
