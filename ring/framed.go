package ring

import (
	"iter"

	"vivarium/api"
	"vivarium/fold"
	"vivarium/topo"
)

// framed has what each place of a grid and of its ring holds, row by row; line has what the places of one of the grid's rows hold. A place that is no cell holds T's zero, which stands for the state 0.
func framed[T uint8 | bool](t api.Topo, line func(y int) []T) []T {
	frame := make([]T, (t.W+2)*(t.H+2))
	for y := range t.H {
		copy(frame[index(t.W, 0, y):], line(y))
	}
	home, _ := topo.Home(t) // of a topology that may be
	for p := range edges(t.W, t.H) {
		// The grid has been laid: what a place of the ring holds is in the frame already.
		if cell, is := cellOf(t, home, p); is {
			frame[index(t.W, p.X, p.Y)] = frame[index(t.W, cell.X, cell.Y)]
		}
	}
	return frame
}

// index is where (x, y) stands in a frame of w columns; x and y count from the grid's first cell on, not from the ring's.
func index(w, x, y int) int { return (y+1)*(w+2) + x + 1 }

// edges goes through the places of the ring, in home numbers.
func edges(w, h int) iter.Seq[api.Point] {
	return func(yield func(api.Point) bool) {
		for x := -1; x <= w; x++ {
			if !yield(api.Point{X: x, Y: -1}) || !yield(api.Point{X: x, Y: h}) {
				return
			}
		}
		for y := range h {
			if !yield(api.Point{X: -1, Y: y}) || !yield(api.Point{X: w, Y: y}) {
				return
			}
		}
	}
}

// cellOf is the cell that a place of the ring is, both in home numbers; false: it is none. fold counts from the plane's middle.
func cellOf(t api.Topo, home api.Rect, p api.Point) (api.Point, bool) {
	cell, is, _ := fold.Ring(t, api.Point{X: p.X + home.X, Y: p.Y + home.Y})
	return api.Point{X: cell.X - home.X, Y: cell.Y - home.Y}, is
}
