package fold

import (
	"vivarium/api"
	"vivarium/topo"
	"vivarium/whole"
)

// A grid is a topology that may be, and the rectangle in which its cells lie.
type grid struct {
	api.Topo
	home api.Rect
}

// A spot is a place of the plane as a grid sees it.
type spot struct {
	grid
	at     api.Point // its home numbers
	tile   api.Point // which copy of the grid it lies in
	inside bool      // it is a place of the grid
}

// gridOf tells ErrTopo whatever topo has against t: the codes of a topology's faults are topo's own calls' alone.
func gridOf(t api.Topo) (grid, api.Errno) {
	home, e := topo.Home(t)
	if e != api.OK {
		return grid{}, api.ErrTopo
	}
	return grid{t, home}, api.OK
}

func look(t api.Topo, p api.Point) (spot, api.Errno) {
	g, e := gridOf(t)
	if e != api.OK {
		return spot{}, e
	}
	inside, e := topo.Has(t, p)
	if e != api.OK {
		return spot{}, e
	}
	at := api.Point{X: p.X - g.home.X, Y: p.Y - g.home.Y}
	return spot{g, at, api.Point{X: tileOf(at.X, t.W), Y: tileOf(at.Y, t.H)}, inside}, api.OK
}

// tileOf is 0 along an endless side, which Div refuses with a 0.
func tileOf(n, side int) int {
	tile, _ := whole.Div(n, side)
	return tile
}

// within leaves the numbers of an endless side as they are.
func within(n, side int) int {
	rest, ok := whole.Mod(n, side)
	if !ok {
		return n
	}
	return rest
}

func isOdd(n int) bool {
	return n&1 != 0
}

// isLost: such a place is no cell, and no gluing makes it one.
func (s spot) isLost() bool {
	return !s.inside && (s.Kind == api.Plane || s.Kind == api.Sphere)
}

// isNear: the place is one of the grid or of its ring.
func (s spot) isNear() bool {
	return touches(s.at.X, s.W) && touches(s.at.Y, s.H)
}

func touches(n, side int) bool {
	return side == 0 || -1 <= n && n <= side
}

// place is the place of the plane that has these home numbers.
func (g grid) place(u, v int) api.Point {
	return api.Point{X: u + g.home.X, Y: v + g.home.Y}
}

func (s spot) cell() (api.Point, api.Errno) {
	if s.isLost() {
		return api.Point{}, api.ErrOut
	}
	if s.inside {
		return s.place(s.at.X, s.at.Y), api.OK
	}
	cell, _ := s.beyond()
	return cell, api.OK
}
