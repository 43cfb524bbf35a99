package field_test

import (
	"testing"

	"vivarium/api"
)

// What is none: each call, of nil and of a zero Field, ahead of all that is wrong besides.

func TestNoneHasNothing(t *testing.T) {
	for _, f := range nones() {
		if f.W() != 0 || f.H() != 0 || f.States() != 0 || f.Packed() {
			t.Errorf("%d, %d, %d, %v", f.W(), f.H(), f.States(), f.Packed())
		}
		if f.Pop() != 0 {
			t.Errorf("Pop %d", f.Pop())
		}
		if box, lives := f.Box(); box != (api.Rect{}) || lives {
			t.Errorf("Box %v, %v", box, lives)
		}
		if f.Clone() != nil {
			t.Error("a clone of none")
		}
		cells := f.Cells()
		if cells == nil {
			t.Fatal("Cells is nil")
		}
		for range 2 {
			if list := gone(cells); list != nil {
				t.Errorf("Cells goes through %v", list)
			}
		}
	}
}

func TestNoneIsErrNilAheadOfAllElse(t *testing.T) {
	for _, f := range nones() {
		for _, n := range []int{0, -1, 1, 1 << 40} {
			if state, e := f.Get(n, n); state != 0 || e != api.ErrNil {
				t.Errorf("Get(%d): %d, %d", n, state, e)
			}
			if line, e := f.Line(n); line != nil || e != api.ErrNil {
				t.Errorf("Line(%d): %v, %d", n, line, e)
			}
			for _, state := range []uint8{0, 1, 255} {
				if e := f.Set(n, n, state); e != api.ErrNil {
					t.Errorf("Set(%d, %d): %d", n, state, e)
				}
				for _, line := range [][]uint8{nil, {}, {state}, {state, 1}} {
					if e := f.Lay(n, line); e != api.ErrNil {
						t.Errorf("Lay(%d, %v): %d", n, line, e)
					}
				}
			}
		}
		for range 2 {
			if e := f.Clear(); e != api.ErrNil {
				t.Errorf("Clear: %d", e)
			}
			for _, on := range []bool{true, false} {
				if e := f.Pack(on); e != api.ErrNil || f.Packed() {
					t.Errorf("Pack(%v): %d", on, e)
				}
			}
		}
	}
}

func TestNoneIsTheSameAsNothing(t *testing.T) {
	for _, f := range nones() {
		for _, g := range nones() {
			if f.Same(g) {
				t.Error("none is the same as none")
			}
		}
		if f.Same(f) {
			t.Error("none is the same as itself")
		}
		for _, packed := range []bool{true, false} {
			g := must(t, 1, 1, 2, packed)
			if f.Same(g) || g.Same(f) {
				t.Error("none is the same as a field")
			}
		}
	}
}
