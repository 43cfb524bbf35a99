package field_test

import (
	"math"
	"testing"

	"vivarium/api"
)

// P13.4

// beyond are numbers outside of 0 to n - 1: the next ones, and those that come inside where words of 64 or rows are reckoned with.
func beyond(n int) []int {
	return []int{-1, n, -2, n + 1, -n, -64, n + 63, n + 64, 1 << 32, -1 << 32, math.MaxInt, math.MinInt}
}

func TestSetAtEachPlace(t *testing.T) {
	for _, s := range kinds() {
		f, m := both(t, s.w, s.h, s.states, s.packed)
		last := uint8(s.states - 1)
		for y := range s.h {
			for x := range s.w {
				if e := f.Set(x, y, last); e != api.OK {
					t.Errorf("%v: Set(%d, %d): %d", s, x, y, e)
				}
				m.set(x, y, last)
				if state, e := f.Get(x, y); state != last || e != api.OK {
					t.Errorf("%v: Get(%d, %d): %d, %d", s, x, y, state, e)
				}
				if f.Pop() != len(m.cells) {
					t.Errorf("%v: Pop %d behind Set(%d, %d), not %d", s, f.Pop(), x, y, len(m.cells))
				}
			}
		}
		is(t, "all set", f, m)
	}
}

// TestSetOneByItself: one cell set changes no other, and set to 0 again leaves nothing.
func TestSetOneByItself(t *testing.T) {
	for _, packed := range []bool{false, true} {
		for _, x := range []int{0, 1, 62, 63, 64, 65, 66, 126, 127, 128, 129} {
			for y := range 3 {
				f, m := both(t, 130, 3, 2, packed)
				for _, state := range []uint8{1, 1, 0, 0, 1, 0} {
					if e := f.Set(x, y, state); e != api.OK {
						t.Errorf("Set(%d, %d, %d): %d", x, y, state, e)
					}
					m.set(x, y, state)
					is(t, "one set", f, m)
				}
			}
		}
	}
}

// TestSetAmongLivingOnes: all others live, and stay.
func TestSetAmongLivingOnes(t *testing.T) {
	d := dice(5)
	for _, packed := range []bool{false, true} {
		for _, x := range []int{0, 1, 62, 63, 64, 65, 66, 126, 127, 128, 129} {
			f, m := filled(t, &d, kind{130, 3, 2, packed}, 1)
			for _, state := range []uint8{1, 0, 0, 1} {
				if e := f.Set(x, 1, state); e != api.OK {
					t.Errorf("Set(%d, 1, %d): %d", x, state, e)
				}
				m.set(x, 1, state)
				is(t, "one set", f, m)
			}
		}
	}
}

func TestEachStateIsKept(t *testing.T) {
	f := must(t, 16, 16, 256, false)
	for n := range 256 {
		if e := f.Set(n%16, n/16, uint8(n)); e != api.OK {
			t.Errorf("Set of %d: %d", n, e)
		}
	}
	for n := range 256 {
		if state, e := f.Get(n%16, n/16); int(state) != n || e != api.OK {
			t.Errorf("Get of %d: %d, %d", n, state, e)
		}
	}
}

func TestNoSuchPlace(t *testing.T) {
	d := dice(7)
	for _, s := range kinds() {
		f, m := filled(t, &d, s, 2)
		bad := uint8(min(s.states, 255)) // not below States, but of 256: the place counts ahead of it
		noPlace := func(x, y int) {
			t.Helper()
			if state, e := f.Get(x, y); state != 0 || e != api.ErrPlace {
				t.Errorf("%v: Get(%d, %d): %d, %d", s, x, y, state, e)
			}
			for _, state := range []uint8{0, 1, bad, 255} {
				if e := f.Set(x, y, state); e != api.ErrPlace {
					t.Errorf("%v: Set(%d, %d, %d): %d", s, x, y, state, e)
				}
			}
		}
		for _, x := range beyond(s.w) {
			for y := range s.h {
				noPlace(x, y)
			}
			for _, y := range beyond(s.h) {
				noPlace(x, y)
			}
		}
		for _, y := range beyond(s.h) {
			for _, x := range []int{0, s.w / 2, s.w - 1} {
				noPlace(x, y)
			}
		}
		is(t, "behind refused ones", f, m)
	}
}

func TestStatesThatThereAreNot(t *testing.T) {
	d := dice(11)
	for states := 2; states <= 256; states++ {
		f, m := filled(t, &d, kind{3, 2, states, states == 2 && d.below(2) == 0}, 2)
		for state := states; state < 256; state++ {
			if e := f.Set(d.below(3), d.below(2), uint8(state)); e != api.ErrState {
				t.Errorf("Set to %d of %d states: %d", state, states, e)
			}
		}
		is(t, "behind refused ones", f, m)
		if e := f.Set(2, 1, uint8(states-1)); e != api.OK {
			t.Errorf("Set to the last of %d states: %d", states, e)
		}
		m.set(2, 1, uint8(states-1))
		is(t, "behind the last state", f, m)
	}
}

// TestStatesThatBitsHaveNot: of bits each state above 1, at each corner.
func TestStatesThatBitsHaveNot(t *testing.T) {
	f, m := both(t, 65, 2, 2, true)
	for state := 2; state < 256; state++ {
		for _, p := range []api.Point{{}, {X: 64}, {Y: 1}, {X: 64, Y: 1}, {X: 63}} {
			if e := f.Set(p.X, p.Y, uint8(state)); e != api.ErrState {
				t.Errorf("Set of %v to %d: %d", p, state, e)
			}
		}
	}
	is(t, "behind refused ones", f, m)
}
