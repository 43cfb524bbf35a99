package packed_test

import (
	"slices"
	"testing"

	"vivarium/api"
	"vivarium/field"
	"vivarium/packed"
)

// P16.3

// TestNextIsRunOfOne: answers and errors, whatever is handed in.
func TestNextIsRunOfOne(t *testing.T) {
	eachRefusal(t, func(l api.Life, a api.Topo, f *field.Field, _ int) {
		g, e := packed.Next(l, a, f)
		if want := modelError(l, a, f, 1); e != want || (g == nil) != (e != api.OK) {
			t.Errorf("Next(%v, %v): %d, not %d", l, a, e, want)
		}
		if one, refused := packed.Run(l, a, f, 1); refused != e || e == api.OK && (!g.Same(one) || !g.Packed()) {
			t.Errorf("Next(%v, %v): %d; Run of 1: %d", l, a, e, refused)
		}
	})
}

// TestNextOfEachGrid: one generation of the model, by fields that are packed and not; what is handed in stays.
func TestNextOfEachGrid(t *testing.T) {
	d := dice(37)
	for _, l := range fewRules() {
		for i, a := range slices.Concat(grids(2), someOf(5, 4), someOf(64, 3), someOf(3, 65)) {
			cells := d.cells(a.W * a.H)
			f := made(t, a.W, a.H, 2, i%2 == 0, cells)
			g, e := packed.Next(l, a, f)
			if e != api.OK || g == nil || g == f || !g.Packed() || g.States() != 2 {
				t.Fatalf("Next(%v, %v): %d", l, a, e)
			}
			hasCells(t, "the model", l, a, g, modelRun(l, a, cells, 1))
			hasCells(t, "handed in", l, a, f, cells)
			if f.Packed() != (i%2 == 0) {
				t.Errorf("Next(%v, %v): what was handed in is packed otherwise", l, a)
			}
		}
	}
}
