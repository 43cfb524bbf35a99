package shape_test

import (
	"testing"

	"vivarium/api"
	"vivarium/shape"
)

// P24.3: Box.

func TestBoxIsTheModels(t *testing.T) {
	look := func(w world) {
		r, has, e := shape.Box(w.shape())
		if want, is := w.box(); r != want || has != is || e != api.OK {
			t.Errorf("Box(%v) = %v, %v, %d, not %v", few(w.shape()), r, has, e, want)
		}
	}
	for w := range grids(3, 4, 2) {
		look(w)
		look(w.turned(0, -2, -3))
		look(w.turned(0, 1000, -far))
	}
	d := dice(11)
	for range 10000 {
		look(d.world())
	}
}

func TestBoxUpToMaxFar(t *testing.T) {
	hasBox(t, of(cell(-far, -far, 1)), api.Rect{X: -far, Y: -far, W: 1, H: 1})
	hasBox(t, of(cell(far, far, 1)), api.Rect{X: far, Y: far, W: 1, H: 1})
	hasBox(t, of(cell(far, -far, 1), cell(-far, far, 1)), api.Rect{X: -far, Y: -far, W: 2*far + 1, H: 2*far + 1})
	hasBox(t, of(cell(-far, 0, 1), cell(far, 0, 1)), api.Rect{X: -far, Y: 0, W: 2*far + 1, H: 1})
	hasBox(t, of(cell(7, -far, 1), cell(7, far, 1)), api.Rect{X: 7, Y: -far, W: 1, H: 2*far + 1})
}

// TestBoxLooksAtAllCells: what reaches furthest may stand anywhere in its row, and its row anywhere.
func TestBoxLooksAtAllCells(t *testing.T) {
	hasBox(t, of(cell(0, 0, 1), cell(-5, 1, 1), cell(9, 1, 1), cell(2, 2, 1)), api.Rect{X: -5, Y: 0, W: 15, H: 3})
	hasBox(t, of(square(128, 128)...), api.Rect{W: 128, H: 128})
	hasBox(t, of(line(-3, -4, many, 1)...), api.Rect{X: -3, Y: -4, W: many, H: 1})
}
