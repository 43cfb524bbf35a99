package tiles

import (
	"iter"

	"vivarium/api"
	"vivarium/field"
	"vivarium/fold"
	"vivarium/ring"
	"vivarium/topo"
)

// grid is the cells with the ring about them, in which some of them stand once more or several times. Its places have home numbers.
type grid struct {
	api.Frame
	echoes map[api.Point][]api.Point // the places of the ring that are a cell
}

// gridOf is the grid of a field that goes with the topology.
func gridOf(t api.Topo, f *field.Field) grid {
	frame, _ := ring.Bytes(t, f)
	g := grid{Frame: frame, echoes: map[api.Point][]api.Point{}}
	home, _ := topo.Home(t)
	for p := range edges(t.W, t.H) {
		// fold counts from the plane's middle.
		cell, is, _ := fold.Ring(t, api.Point{X: p.X + home.X, Y: p.Y + home.Y})
		if is {
			at := api.Point{X: cell.X - home.X, Y: cell.Y - home.Y}
			g.echoes[at] = append(g.echoes[at], p)
		}
	}
	return g
}

// edges goes through the places of the ring.
func edges(w, h int) iter.Seq[api.Point] {
	return func(yield func(api.Point) bool) {
		for x := -1; x <= w; x++ {
			if !yield(api.Point{X: x, Y: -1}) || !yield(api.Point{X: x, Y: h}) {
				return
			}
		}
		for y := range h {
			if !yield(api.Point{X: -1, Y: y}) || !yield(api.Point{X: w, Y: y}) {
				return
			}
		}
	}
}

// places goes through all places that are a cell: its own, and those of the ring.
func (g grid) places(cell api.Point) iter.Seq[api.Point] {
	return func(yield func(api.Point) bool) {
		if !yield(cell) || !g.isEdge(cell) {
			return
		}
		for _, p := range g.echoes[cell] {
			if !yield(p) {
				return
			}
		}
	}
}

// isEdge tells whether a cell lies at the grid's edge: no other one is in the ring, and the map need not be asked of it.
func (g grid) isEdge(cell api.Point) bool {
	return cell.X == 0 || cell.X == g.W-1 || cell.Y == 0 || cell.Y == g.H-1
}

// index is where a place stands in the frame's list.
func (g grid) index(x, y int) int { return (y+1)*(g.W+2) + x + 1 }

func (g grid) stateAt(x, y int) uint8 { return g.Cells[g.index(x, y)] }

func (g grid) lay(p api.Point, state uint8) { g.Cells[g.index(p.X, p.Y)] = state }

// line is a row of cells, without the ring; it is the grid's own memory.
func (g grid) line(y int) []uint8 { return g.Cells[g.index(0, y):g.index(g.W, y)] }
