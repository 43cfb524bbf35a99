package shape

import (
	"cmp"

	"vivarium/api"
)

func isFar(c api.Cell) bool {
	return min(c.X, c.Y) < -api.MaxFar || max(c.X, c.Y) > api.MaxFar
}

// byRows puts cells in order by their places alone.
func byRows(a, b api.Cell) int {
	return cmp.Or(cmp.Compare(a.Y, b.Y), cmp.Compare(a.X, b.X))
}

// inOrder puts cells in order as shapes are, one held against another.
func inOrder(a, b api.Cell) int {
	return cmp.Or(byRows(a, b), cmp.Compare(a.State, b.State))
}

// living are the cells that live, of which there are n.
func living(cells []api.Cell, n int) []api.Cell {
	list := make([]api.Cell, 0, n)
	for _, c := range cells {
		if c.State != 0 {
			list = append(list, c)
		}
	}
	return list
}

// hasTwins tells of cells by rows whether two of them are at one place.
func hasTwins(cells []api.Cell) bool {
	for i := 1; i < len(cells); i++ {
		if byRows(cells[i-1], cells[i]) == 0 {
			return true
		}
	}
	return false
}

// box is the least rectangle that has all cells; where there are none, the zero one.
func box(cells []api.Cell) api.Rect {
	if len(cells) == 0 {
		return api.Rect{}
	}
	first, last := cells[0], cells[0]
	for _, c := range cells {
		first.X, first.Y = min(first.X, c.X), min(first.Y, c.Y)
		last.X, last.Y = max(last.X, c.X), max(last.Y, c.Y)
	}
	return api.Rect{X: first.X, Y: first.Y, W: last.X - first.X + 1, H: last.Y - first.Y + 1}
}

// together goes over two lists at once, each of which is in order: of what is in one of them alone does alone, of what is in both does both, the first list's thing ahead.
func together[T any](a, b []T, order func(T, T) int, alone func(T), both func(T, T)) {
	for len(a) > 0 && len(b) > 0 {
		switch c := order(a[0], b[0]); {
		case c < 0:
			alone(a[0])
			a = a[1:]
		case c > 0:
			alone(b[0])
			b = b[1:]
		default:
			both(a[0], b[0])
			a, b = a[1:], b[1:]
		}
	}
	for _, x := range a {
		alone(x)
	}
	for _, x := range b {
		alone(x)
	}
}
