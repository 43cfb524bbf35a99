package shape_test

import (
	"fmt"
	"testing"

	"vivarium/api"
)

// P24.6: Parts.

// TestPartsOfSmallShapes: all of 3 times 3 with three states, and all of 4 times 4 that a quarter turn takes to themselves; among them are shapes with each of the ten groups of turns.
func TestPartsOfSmallShapes(t *testing.T) {
	groups := map[string]int{}
	look := func(w world) {
		want := w.parts()
		hasParts(t, w.shape(), want...)
		groups[fmt.Sprint(want)]++
	}
	for w := range grids(3, 3, 3) {
		look(w)
	}
	for q := range grids(2, 2, 3) {
		half := mixed(q, q.turned(1, 3, 0), api.MixOver)
		look(mixed(half, half.turned(2, 3, 3), api.MixOver))
	}
	for _, g := range []string{"[0]", "[0 2]", "[0 1 2 3]", "[0 4]", "[0 5]", "[0 6]", "[0 7]", "[0 2 4 6]", "[0 2 5 7]", "[0 1 2 3 4 5 6 7]"} {
		if groups[g] == 0 {
			t.Error("no shape with", g)
		}
	}
	if len(groups) != 10 {
		t.Error(groups)
	}
}

func TestPartsIsTheModels(t *testing.T) {
	d := dice(41)
	more := 0
	for range 2000 {
		w := d.world()
		want := w.parts()
		more += min(1, len(want)-1)
		hasParts(t, w.shape(), want...)
	}
	if more < 200 {
		t.Error(more)
	}
}

func TestPartsOfNothing(t *testing.T) {
	hasParts(t, of(), 0, 1, 2, 3, 4, 5, 6, 7)
	hasParts(t, api.Shape{}, 0, 1, 2, 3, 4, 5, 6, 7)
}

// TestPartsHangOnStates: one other state breaks what the places keep.
func TestPartsHangOnStates(t *testing.T) {
	ring := []api.Cell{cell(0, 0, 1), cell(1, 0, 1), cell(0, 1, 1), cell(1, 1, 1)}
	hasParts(t, of(ring...), 0, 1, 2, 3, 4, 5, 6, 7)
	for i, want := range [][]int{{0, 5}, {0, 7}, {0, 7}, {0, 5}} {
		list := append([]api.Cell(nil), ring...)
		list[i].State = 2
		hasParts(t, of(list...), want...)
	}
	hasParts(t, of(cell(0, 0, 1), cell(1, 0, 2), cell(0, 1, 1), cell(1, 1, 2)), 0, 4)
	hasParts(t, of(cell(0, 0, 1), cell(1, 0, 2), cell(0, 1, 2), cell(1, 1, 1)), 0, 2, 5, 7)
	hasParts(t, of(cell(0, 0, 1), cell(1, 0, 2), cell(0, 1, 4), cell(1, 1, 3)), 0)
}

// TestPartsOfWideShapes: a shape may be wider than MaxFar, and lie anywhere; the parts are told all the same.
func TestPartsOfWideShapes(t *testing.T) {
	all := []int{0, 1, 2, 3, 4, 5, 6, 7}
	corners := []api.Cell{cell(-far, -far, 1), cell(far, -far, 1), cell(-far, far, 1), cell(far, far, 1)}
	hasParts(t, of(corners...), all...)
	hasParts(t, of(cell(-far, 3, 1), cell(far, 3, 1)), 0, 2, 4, 6)
	hasParts(t, of(cell(-far, 3, 1), cell(far, 3, 2)), 0, 4)
	hasParts(t, of(cell(8, -far, 1), cell(8, far, 2)), 0, 6)
	hasParts(t, of(cell(-far, -far, 1), cell(far, far, 1)), 0, 2, 5, 7)
	hasParts(t, of(cell(-far, -far, 1), cell(far, far, 2)), 0, 5)
	hasParts(t, of(cell(far, -far, 1), cell(-far, far, 2)), 0, 7)
	hasParts(t, of(cell(far-1, -far, 1), cell(-far, far, 1)), 0, 2)
	for i, want := range [][]int{{0, 5}, {0, 7}, {0, 7}, {0, 5}} {
		list := append([]api.Cell(nil), corners...)
		list[i].State = 2
		hasParts(t, of(list...), want...)
	}
	for _, x := range []int{-far, far - 2} {
		w := worldOf(glider().Cells...).turned(0, x, -far)
		hasParts(t, w.shape(), 0)
	}
	hasParts(t, of(cell(far, far, 9)), all...)
	hasParts(t, of(cell(-far, far, 9)), all...)
}

func TestPartsOfAsManyAsMayBe(t *testing.T) {
	w := world{}
	for y := range 128 {
		for x := range 128 {
			w[api.Point{X: x, Y: y}] = 1
		}
	}
	hasParts(t, w.shape(), 0, 1, 2, 3, 4, 5, 6, 7)
	w[api.Point{X: 127, Y: 127}] = 2
	hasParts(t, w.shape(), 0, 5)
	hasParts(t, of(line(9, 9, many, 1)...), 0, 2, 4, 6)
	hasParts(t, of(line(9, 9, many-1, 1)...), 0, 2, 4, 6)
}
