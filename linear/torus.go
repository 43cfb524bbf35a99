package linear

import (
	"cmp"
	"slices"

	"vivarium/api"
	"vivarium/fold"
	"vivarium/topo"
	"vivarium/whole"
)

// A torus is laid so that each row comes back to itself at its end.
type torus struct {
	api.Topo
	home   api.Rect
	across bool // it lies with rows and columns exchanged
}

// torusOf: with the height turned a row goes on in another one, while each column comes back to itself. Without a turn both do, and the fewer the rows, the less there is to do.
func torusOf(t api.Topo) torus {
	across := t.Turn == api.TurnHigh || t.Turn == api.TurnNone && t.H > t.W
	if across {
		t, _ = topo.Across(t) // it was looked at
	}
	home, _ := topo.Home(t)
	return torus{t, home, across}
}

// laid has places as the torus lies; laid once more they are as they were.
func (g torus) laid(places []api.Point) []api.Point {
	laid := slices.Clone(places)
	if g.across {
		for i, p := range laid {
			laid[i] = api.Point{X: p.Y, Y: p.X}
		}
	}
	return laid
}

// cell is asked for offsets, and for what lies a side or two from the grid: nothing that fold finds too far.
func (g torus) cell(p api.Point) api.Point {
	cell, _ := fold.Cell(g.Topo, p)
	return cell
}

// leaps are the moves by which n generations are done: a list for each digit of n in twos that is 1, for twice as many generations move twice as far.
func (g torus) leaps(moves []api.Point, n int) [][]api.Point {
	var all [][]api.Point
	moves = g.folded(moves, 1)
	for ; n > 0; n /= 2 {
		if n%2 == 1 {
			all = append(all, moves)
		}
		moves = g.folded(moves, 2)
	}
	// They may be done in any order. The short ones come first: where one has no moves, nothing is left to be done.
	slices.SortStableFunc(all, func(a, b []api.Point) int { return cmp.Compare(len(a), len(b)) })
	return all
}

// folded are moves so many times as far, each as the cell to which it takes the place (0, 0): two that come to one cell are none.
func (g torus) folded(moves []api.Point, times int) []api.Point {
	folded := make(set, len(moves))
	for _, m := range moves {
		folded.flip(g.cell(api.Point{X: times * m.X, Y: times * m.Y}))
	}
	return folded.list()
}

// leap is what lives when each cell has come to others by each of the moves, in no order. It goes row by row, for one set of all cells is so great that each look into it takes long.
func (g torus) leap(living, moves []api.Point) []api.Point {
	rows := make(map[int][]api.Point)
	for _, c := range living {
		rows[c.Y] = append(rows[c.Y], c)
	}
	var next []api.Point
	for y := range g.reached(rows, moves) {
		for c := range g.row(y, rows, moves) {
			next = append(next, c)
		}
	}
	return next
}

// reached are the rows to which something comes.
func (g torus) reached(rows map[int][]api.Point, moves []api.Point) map[int]struct{} {
	reached := make(map[int]struct{})
	for y := range rows {
		for _, m := range moves {
			reached[g.cell(api.Point{X: m.X, Y: y + m.Y}).Y] = struct{}{}
		}
	}
	return reached
}

// row is what comes to a row. Whatever row it comes from, what comes to the row's first place is followed by what stands behind it, round to where it began.
func (g torus) row(y int, rows map[int][]api.Point, moves []api.Point) set {
	row := make(set)
	for _, m := range moves {
		first := g.cell(api.Point{X: g.home.X - m.X, Y: y - m.Y})
		for _, c := range rows[first.Y] {
			behind, _ := whole.Mod(c.X-first.X, g.W)
			row.flip(api.Point{X: g.home.X + behind, Y: y})
		}
	}
	return row
}
