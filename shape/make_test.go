package shape_test

import (
	"slices"
	"testing"

	"vivarium/api"
	"vivarium/shape"
)

// P24.1: Make.

func TestMakeIsTheModels(t *testing.T) {
	d := dice(1)
	for range 20000 {
		w := d.world()
		makes(t, d.strewn(w), w.shape().Cells...)
	}
}

// TestMakeOfAllOrders: the same shape comes of all orders of five cells, with dead ones among them at the same places and elsewhere.
func TestMakeOfAllOrders(t *testing.T) {
	want := []api.Cell{cell(2, -1, 9), cell(-3, 0, 1), cell(-2, 0, 255), cell(5, 0, 2), cell(-3, 1, 1)}
	dead := []api.Cell{cell(-3, 0, 0), cell(-3, 0, 0), cell(far+1, -far-1, 0), cell(5, 0, 0)}
	orders := 0
	var order func(list []api.Cell, n int)
	order = func(list []api.Cell, n int) {
		if n == len(list) {
			orders++
			makes(t, list, want...)
			for i := range len(list) + 1 {
				makes(t, slices.Insert(slices.Clone(list), i, dead...), want...)
			}
			return
		}
		for i := n; i < len(list); i++ {
			list[n], list[i] = list[i], list[n]
			order(list, n+1)
			list[n], list[i] = list[i], list[n]
		}
	}
	order(slices.Clone(want), 0)
	if orders != 120 {
		t.Error(orders)
	}
}

func TestMakeOfNothing(t *testing.T) {
	makes(t, nil)
	makes(t, []api.Cell{})
	makes(t, []api.Cell{cell(3, 3, 0), cell(3, 3, 0), cell(far+1, 0, 0)})
}

// TestMakeUpToMaxFar: each number of a place by itself.
func TestMakeUpToMaxFar(t *testing.T) {
	edges := []int{-far, -far + 1, 0, far - 1, far}
	var all []api.Cell
	for _, y := range edges {
		for _, x := range edges {
			all = append(all, cell(x, y, 3))
			makes(t, []api.Cell{cell(x, y, 3)}, cell(x, y, 3))
		}
	}
	d := dice(2)
	makes(t, shuffled(&d, all), all...)
	for _, n := range farNumbers {
		for _, m := range append(edges, farNumbers...) {
			for _, c := range []api.Cell{cell(n, m, 1), cell(m, n, 255)} {
				noMake(t, []api.Cell{c}, api.ErrFar)
				for i := range len(all) + 1 {
					noMake(t, slices.Insert(slices.Clone(all), i, c), api.ErrFar)
				}
				c.State = 0
				makes(t, append([]api.Cell{c}, all...), all...)
				makes(t, append(slices.Clone(all), c), all...)
			}
		}
	}
}

func TestMakeOfTwoAtOnePlace(t *testing.T) {
	cells := []api.Cell{cell(2, -1, 9), cell(-3, 0, 1), cell(-2, 0, 255), cell(5, 0, 2), cell(-3, 1, 1)}
	for _, c := range cells {
		for i := range len(cells) + 1 {
			for _, state := range []uint8{1, 2, c.State, 255} {
				noMake(t, slices.Insert(slices.Clone(cells), i, cell(c.X, c.Y, state)), api.ErrMany)
			}
			makes(t, slices.Insert(slices.Clone(cells), i, cell(c.X, c.Y, 0)), cells...)
		}
	}
	noMake(t, []api.Cell{cell(0, 0, 1), cell(0, 0, 1), cell(0, 0, 1)}, api.ErrMany)
	noMake(t, []api.Cell{cell(far, -far, 1), cell(1, 1, 1), cell(far, -far, 1)}, api.ErrMany)
}

// TestMakeOfAsManyAsMayBe: living cells are counted, no dead ones.
func TestMakeOfAsManyAsMayBe(t *testing.T) {
	d := dice(3)
	for _, list := range [][]api.Cell{line(-7, 3, many, 1), square(128, 128), square(1, many), square(many/2, 2)} {
		makes(t, shuffled(&d, list), list...)
		strewn := append(slices.Clone(list), list...)
		for i := range list {
			strewn[i].State = 0
		}
		makes(t, shuffled(&d, strewn), list...)
		more := append(slices.Clone(list), cell(-1000, -1000, 1))
		noMake(t, more, api.ErrMany)
		noMake(t, shuffled(&d, more), api.ErrMany)
		slices.Reverse(more)
		noMake(t, more, api.ErrMany)
		makes(t, more[1:], list...)
	}
	noMake(t, line(0, 0, 1<<18, 1), api.ErrMany)
}

// square are w times h cells, by rows, of all states that live.
func square(w, h int) []api.Cell {
	var list []api.Cell
	for y := range h {
		for x := range w {
			list = append(list, cell(x, y, uint8(1+(x+3*y)%255)))
		}
	}
	return list
}

// TestMakeTellsFarFirst: ahead of two at one place, and of too many, wherever it stands.
func TestMakeTellsFarFirst(t *testing.T) {
	wrong := cell(0, -far-1, 1)
	for _, list := range [][]api.Cell{{cell(1, 1, 1), cell(1, 1, 2)}, line(0, 0, many, 1), line(0, 0, many+1, 1), line(0, 0, 3*many, 1), {wrong}} {
		for _, i := range []int{0, 1, len(list) / 2, len(list)} {
			noMake(t, slices.Insert(slices.Clone(list), i, wrong), api.ErrFar)
		}
	}
}

func TestWhatMakeAnswersMayBe(t *testing.T) {
	d := dice(4)
	for range 5000 {
		s, e := shape.Make(d.strewn(d.world()))
		if e != api.OK {
			t.Fatal(e)
		}
		checks(t, s, api.OK)
		makes(t, s.Cells, s.Cells...)
	}
}
