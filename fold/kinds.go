package fold

import (
	"vivarium/api"
	"vivarium/whole"
)

// beyond is the cell that a place outside of the grid is; false: it is none.
func (s spot) beyond() (api.Point, bool) {
	return kinds()[s.Kind](s)
}

// kinds: what each kind of topology does with a place outside of its grid (of a Sphere: in its ring).
func kinds() [api.Sphere + 1]func(spot) (api.Point, bool) {
	return [...]func(spot) (api.Point, bool){
		api.Plane:  spot.onPlane,
		api.Torus:  spot.onTorus,
		api.Klein:  spot.onKlein,
		api.Cross:  spot.onCross,
		api.Sphere: spot.onSphere,
	}
}

func (s spot) onPlane() (api.Point, bool) {
	return api.Point{}, false
}

// onTorus: the edges' copies lie aside by the shift, each tile once more. (A tile's number times a shift is below 2^57.)
func (s spot) onTorus() (api.Point, bool) {
	u, v := s.at.X, s.at.Y
	switch s.Turn {
	case api.TurnWide:
		u -= s.tile.Y * s.Shift
	case api.TurnHigh:
		v -= s.tile.X * s.Shift
	}
	return s.folded(u, v), true
}

// onKlein: two tiles further all is as it was, the shift too: what is turned over goes back by as much as it came.
func (s spot) onKlein() (api.Point, bool) {
	u, v := s.at.X, s.at.Y
	switch {
	case s.Turn == api.TurnWide && isOdd(s.tile.Y):
		u = s.W - 1 - u + s.Shift
	case s.Turn == api.TurnHigh && isOdd(s.tile.X):
		v = s.H - 1 - v + s.Shift
	}
	return s.folded(u, v), true
}

func (s spot) onCross() (api.Point, bool) {
	u, v := s.at.X, s.at.Y
	if isOdd(s.tile.Y) {
		u = s.W - 1 - u
	}
	if isOdd(s.tile.X) {
		v = s.H - 1 - v
	}
	return s.folded(u, v), true
}

// onSphere: a place of the ring is the nearest one of the grid with its numbers exchanged, for the edges that meet do so across a diagonal.
func (s spot) onSphere() (api.Point, bool) {
	u, v := whole.Near(s.at.X, 0, s.W-1), whole.Near(s.at.Y, 0, s.H-1)
	return s.place(v, u), true
}

// folded brings home numbers into the grid.
func (s spot) folded(u, v int) api.Point {
	return s.place(within(u, s.W), within(v, s.H))
}
