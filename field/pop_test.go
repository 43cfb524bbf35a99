package field_test

import (
	"testing"

	"vivarium/api"
)

// P13.6, P13.7

func TestClear(t *testing.T) {
	d := dice(31)
	for _, s := range kinds() {
		for _, oneOf := range []int{1, 3, 1 << 20} {
			f, _ := filled(t, &d, s, oneOf)
			for range 2 {
				if e := f.Clear(); e != api.OK {
					t.Errorf("%v: Clear: %d", s, e)
				}
				is(t, "cleared", f, newModel(s.w, s.h, s.states, s.packed))
			}
			if e := f.Set(s.w-1, s.h-1, 1); e != api.OK {
				t.Errorf("%v: Set behind Clear: %d", s, e)
			}
			m := newModel(s.w, s.h, s.states, s.packed)
			m.set(s.w-1, s.h-1, 1)
			is(t, "set behind Clear", f, m)
		}
	}
}

func TestPopAndBoxOfOneCell(t *testing.T) {
	for _, s := range []kind{{130, 3, 2, true}, {130, 3, 2, false}, {130, 3, 256, false}} {
		for y := range s.h {
			for x := range s.w {
				f := must(t, s.w, s.h, s.states, s.packed)
				f.Set(x, y, uint8(s.states-1))
				if box, lives := f.Box(); box != (api.Rect{X: x, Y: y, W: 1, H: 1}) || !lives || f.Pop() != 1 {
					t.Errorf("%v: of (%d, %d) alone: %v, %v, Pop %d", s, x, y, box, lives, f.Pop())
				}
			}
		}
	}
}

func TestPopAndBoxOfTwoCells(t *testing.T) {
	columns := []int{0, 1, 63, 64, 65, 127, 128, 129}
	for _, packed := range []bool{true, false} {
		for _, x := range columns {
			for _, x2 := range columns {
				for _, y2 := range []int{0, 2, 4} {
					f, m := both(t, 130, 5, 2, packed)
					for _, p := range []api.Point{{X: x, Y: 2}, {X: x2, Y: y2}} {
						f.Set(p.X, p.Y, 1)
						m.set(p.X, p.Y, 1)
					}
					want := api.Rect{X: min(x, x2), Y: min(2, y2), W: max(x, x2) - min(x, x2) + 1, H: max(2, y2) - min(2, y2) + 1}
					if box, lives := f.Box(); box != want || !lives || f.Pop() != len(m.cells) {
						t.Errorf("of (%d, 2), (%d, %d): %v, %v, Pop %d; not %v, %d", x, x2, y2, box, lives, f.Pop(), want, len(m.cells))
					}
				}
			}
		}
	}
}

// TestBoxOfCellsOnEachEdge: four cells, each of them on one edge alone, in whatever order the rows have them.
func TestBoxOfCellsOnEachEdge(t *testing.T) {
	for _, s := range []kind{{7, 5, 2, true}, {70, 6, 2, true}, {200, 9, 2, true}, {7, 5, 2, false}, {200, 9, 5, false}} {
		for top := range s.w {
			for _, left := range []int{1, s.h / 2, s.h - 2} {
				f, m := both(t, s.w, s.h, s.states, s.packed)
				for _, p := range []api.Point{{X: top}, {X: s.w - 1 - top, Y: s.h - 1}, {Y: left}, {X: s.w - 1, Y: s.h - 1 - left}} {
					f.Set(p.X, p.Y, uint8(s.states-1))
					m.set(p.X, p.Y, uint8(s.states-1))
				}
				if box, lives := f.Box(); box != (api.Rect{W: s.w, H: s.h}) || !lives || f.Pop() != len(m.cells) {
					t.Errorf("%v: %v, %v, Pop %d, not %d", s, box, lives, f.Pop(), len(m.cells))
				}
			}
		}
	}
}

func TestPopAndBoxShrinkAgain(t *testing.T) {
	d := dice(37)
	for _, packed := range []bool{true, false} {
		f, m := filled(t, &d, kind{100, 4, 2, packed}, 12)
		for _, c := range m.list() {
			f.Set(c.X, c.Y, 0)
			m.set(c.X, c.Y, 0)
			is(t, "one taken away", f, m)
		}
		if box, lives := f.Box(); box != (api.Rect{}) || lives || f.Pop() != 0 {
			t.Errorf("of none that lives: %v, %v, %d", box, lives, f.Pop())
		}
	}
}

func TestPopOfAll(t *testing.T) {
	for _, s := range []kind{{1024, 1024, 2, true}, {1024, 1024, 256, false}, {65536, 16, 2, true}, {16, 65536, 2, true}} {
		f := must(t, s.w, s.h, s.states, s.packed)
		line := make([]uint8, s.w)
		for x := range line {
			line[x] = uint8(s.states - 1)
		}
		for y := range s.h {
			f.Lay(y, line)
		}
		if box, lives := f.Box(); box != (api.Rect{W: s.w, H: s.h}) || !lives || f.Pop() != s.w*s.h {
			t.Errorf("%v: %v, %v, %d", s, box, lives, f.Pop())
		}
		n := 0
		for p, state := range f.Cells() {
			if p != (api.Point{X: n % s.w, Y: n / s.w}) || int(state) != s.states-1 {
				t.Fatalf("%v: step %d: %v, %d", s, n, p, state)
			}
			n++
		}
		if n != s.w*s.h {
			t.Errorf("%v: Cells goes through %d", s, n)
		}
	}
}
