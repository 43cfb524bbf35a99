package plain

import "vivarium/api"

// view is what is seen of living cells through a rectangle.
type view struct {
	rect   api.Rect
	states map[api.Point]uint8
}

// look makes a view, or tells the first reason why there is none.
func look(cells []api.Cell, r api.Rect) (view, api.Errno) {
	states, e := living(cells)
	switch {
	case e != api.OK:
		return view{}, e
	case !isSide(r.W) || !isSide(r.H):
		return view{}, api.ErrPicture
	case isFar(r.X) || isFar(r.Y):
		return view{}, api.ErrFar
	}
	return view{rect: r, states: states}, api.OK
}

// living are the states of the cells that live, by their places.
func living(cells []api.Cell) (map[api.Point]uint8, api.Errno) {
	for _, c := range cells { // first of all: a place that is too far counts ahead of one that stands twice
		if c.State != 0 && (isFar(c.X) || isFar(c.Y)) {
			return nil, api.ErrFar
		}
	}
	states := map[api.Point]uint8{}
	for _, c := range cells {
		if c.State == 0 {
			continue
		}
		p := api.Point{X: c.X, Y: c.Y}
		if _, is := states[p]; is {
			return nil, api.ErrMany
		}
		states[p] = c.State
	}
	return states, api.OK
}

// state is that of a place, numbered from the rectangle's first one on.
func (v view) state(i, j int) uint8 {
	return v.states[api.Point{X: v.rect.X + i, Y: v.rect.Y + j}]
}

// lives tells of a place whether a cell lives there. Below the rectangle none does: the second row of a pair may lie there.
func (v view) lives(i, j int) bool {
	return j < v.rect.H && v.state(i, j) != 0
}

func isSide(n int) bool { return 0 <= n && n <= api.MaxSide }

func isFar(n int) bool { return n < -api.MaxFar || n > api.MaxFar }
