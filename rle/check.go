package rle

import (
	"cmp"
	"slices"
	"strings"

	"vivarium/api"
)

// living are the cells of a pattern that live, by rows, of one row from the left; or the first reason why the pattern can't be told.
func living(d api.Doc) ([]api.Cell, api.Errno) {
	if e := checkHead(d); e != api.OK {
		return nil, e
	}
	var cells []api.Cell
	for _, c := range d.Cells {
		switch {
		case c.State == 0:
		case !within(c.X, 0, d.W-1) || !within(c.Y, 0, d.H-1):
			return nil, api.ErrPlace
		default:
			cells = append(cells, c)
		}
	}
	slices.SortFunc(cells, byRows)
	for i := range len(cells) - 1 {
		if byRows(cells[i], cells[i+1]) == 0 {
			return nil, api.ErrMany
		}
	}
	if len(cells) > api.MaxCells {
		return nil, api.ErrBudget
	}
	return cells, api.OK
}

// byRows compares two cells by where they lie alone.
func byRows(a, b api.Cell) int {
	return cmp.Or(cmp.Compare(a.Y, b.Y), cmp.Compare(a.X, b.X))
}

// checkHead looks at all but the cells.
func checkHead(d api.Doc) api.Errno {
	switch {
	case !within(d.W, 0, api.MaxFar) || !within(d.H, 0, api.MaxFar):
		return api.ErrFar
	case !isRule(d.Rule):
		return api.ErrRule
	case !d.Placed && d.At != api.Point{}:
		return api.ErrDoc
	case isFar(d.At.X) || isFar(d.At.Y) || !within(d.Gen, 0, api.MaxGen):
		return api.ErrFar
	}
	return api.OK
}

func isFar(n int) bool { return !within(n, -api.MaxFar, api.MaxFar) }

// isRule tells whether a head may have a text for its rule: such as is read there again.
func isRule(text string) bool {
	return text != "" && text == strings.Trim(text, blanks) && !strings.ContainsAny(text, "\r\n")
}
