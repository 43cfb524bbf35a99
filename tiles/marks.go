package tiles

import "vivarium/api"

// marks has a mark for each tile that the next generation works out. Tiles are numbered row by row.
type marks struct {
	w, h    int // the grid's sides
	columns int // of tiles
	on      []bool
}

// allMarked has a mark for each tile of a grid.
func allMarked(w, h int) marks {
	m := marks{w: w, h: h, columns: tileOf(w-1) + 1}
	m.on = make([]bool, m.columns*(tileOf(h-1)+1))
	for i := range m.on {
		m.on[i] = true
	}
	return m
}

// tileOf is the column of tiles that a column of cells lies in; of rows likewise.
func tileOf(n int) int { return n / api.MaxTile }

func (m marks) tiles() int { return len(m.on) }

// about marks the tiles that have the place, or a place beside it; it is one of the grid or of its ring.
func (m marks) about(p api.Point) {
	left, right := tileOf(max(p.X-1, 0)), tileOf(min(p.X+1, m.w-1))
	top, bottom := tileOf(max(p.Y-1, 0)), tileOf(min(p.Y+1, m.h-1))
	for row := top; row <= bottom; row++ {
		for column := left; column <= right; column++ {
			m.on[row*m.columns+column] = true
		}
	}
}

// take are the tiles that are marked; behind it none is.
func (m marks) take() []int {
	var marked []int
	for tile, is := range m.on {
		if is {
			marked = append(marked, tile)
			m.on[tile] = false
		}
	}
	return marked
}

// area is the cells that a tile has.
func (m marks) area(tile int) api.Rect {
	x, y := tile%m.columns*api.MaxTile, tile/m.columns*api.MaxTile
	return api.Rect{X: x, Y: y, W: min(api.MaxTile, m.w-x), H: min(api.MaxTile, m.h-y)}
}
