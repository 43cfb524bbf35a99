package shape

import (
	"slices"

	"vivarium/api"
	"vivarium/iso"
)

// taken are the cells where a map takes them, by rows.
func taken(cells []api.Cell, m api.Iso) ([]api.Cell, api.Errno) {
	list := make([]api.Cell, len(cells))
	for i, c := range cells {
		p, e := iso.At(m, api.Point{X: c.X, Y: c.Y})
		if e != api.OK {
			return nil, e
		}
		list[i] = api.Cell{X: p.X, Y: p.Y, State: c.State}
	}
	slices.SortFunc(list, byRows)
	return list, api.OK
}

// turned are the cells of a shape that may be, turned by a part: it takes no place to one that is too far.
func turned(cells []api.Cell, k int) []api.Cell {
	part, _ := iso.Part(k)
	list, _ := taken(cells, part)
	return list
}

// home are the cells moved so that their box begins at (0, 0). It does without a map, as the far end of a wide shape comes to lie beyond MaxFar, where no map takes it.
func home(cells []api.Cell) []api.Cell {
	r := box(cells)
	list := slices.Clone(cells)
	for i := range list {
		list[i].X -= r.X
		list[i].Y -= r.Y
	}
	return list
}

// homeward is the map that turns the cells of a shape that may be by a part, and moves them home behind it. Its box begins at no place that is too far.
func homeward(cells []api.Cell, k int) api.Iso {
	r := box(turned(cells, k))
	part, _ := iso.Part(k)
	move, _ := iso.Shift(-r.X, -r.Y)
	m, _ := iso.Then(part, move)
	return m
}
