package field_test

import (
	"math"
	"testing"

	"vivarium/api"
	"vivarium/field"
)

// P13.1, P13.2, P13.3

func refused(t *testing.T, w, h, states int, packed bool, want api.Errno) {
	t.Helper()
	if f, e := field.New(w, h, states, packed); f != nil || e != want {
		t.Errorf("New(%d, %d, %d, %v): %v, %d; not %d", w, h, states, packed, f != nil, e, want)
	}
}

func TestNewHasAllCells0(t *testing.T) {
	for _, s := range kinds() {
		f, m := both(t, s.w, s.h, s.states, s.packed)
		is(t, "New", f, m)
	}
}

var (
	badSides  = []int{0, -1, -64, math.MinInt, api.MaxSide + 1, 1 << 32, math.MaxInt}
	badStates = []int{1, 0, -1, -2, math.MinInt, api.MaxStates + 1, 258, 1 << 32, math.MaxInt}
)

func TestNewOfSidesAndStatesThatMayNotBe(t *testing.T) {
	for _, packed := range []bool{false, true} {
		for _, n := range badSides {
			// 3 states and the cells would be refused too: the sides count ahead of both.
			for _, other := range []int{1, 5, api.MaxSide} {
				refused(t, n, other, 2, packed, api.ErrArg)
				refused(t, other, n, 2, packed, api.ErrArg)
				refused(t, n, other, 3, packed, api.ErrArg)
				refused(t, other, n, 3, packed, api.ErrArg)
			}
			for _, other := range badSides {
				refused(t, n, other, 2, packed, api.ErrArg)
			}
			for _, states := range badStates {
				refused(t, n, 1, states, packed, api.ErrArg)
			}
		}
		for _, states := range badStates {
			refused(t, 1, 1, states, packed, api.ErrArg)
			refused(t, 1025, 1024, states, packed, api.ErrArg) // ahead of ErrPack and of ErrBudget
		}
	}
}

func TestNewOfMoreThanTwoStatesPacked(t *testing.T) {
	for states := 3; states <= api.MaxStates; states++ {
		refused(t, 1, 1, states, true, api.ErrPack)
		refused(t, 1025, 1024, states, true, api.ErrPack) // ahead of ErrBudget
		if f := must(t, 1, 1, states, false); f.States() != states || f.Packed() {
			t.Errorf("New of %d states: %d, packed %v", states, f.States(), f.Packed())
		}
	}
}

func TestNewOfTooManyCells(t *testing.T) {
	for _, packed := range []bool{false, true} {
		for _, sides := range [][2]int{{1024, 1025}, {1025, 1024}, {65536, 17}, {17, 65536}, {65536, 65536}, {61681, 17}, {17, 61681}} { // 61681 * 17 is one more than may be
			refused(t, sides[0], sides[1], 2, packed, api.ErrBudget)
		}
	}
	refused(t, 1025, 1024, 256, false, api.ErrBudget)
}

func TestNewAtTheLimits(t *testing.T) {
	for _, s := range []kind{
		{1024, 1024, 2, true}, {1024, 1024, 2, false}, {1024, 1024, 256, false}, {65536, 16, 2, true}, {65536, 16, 256, false},
		{16, 65536, 2, true}, {16, 65536, 256, false}, {65536, 1, 2, true}, {1, 65536, 2, true}, {1, 65536, 2, false}, {61680, 17, 2, true}, {17, 61680, 2, false},
	} {
		f := must(t, s.w, s.h, s.states, s.packed)
		if f.W() != s.w || f.H() != s.h || f.States() != s.states || f.Packed() != s.packed || f.Pop() != 0 {
			t.Errorf("%v: %d, %d, %d, %v, Pop %d", s, f.W(), f.H(), f.States(), f.Packed(), f.Pop())
		}
		last := uint8(s.states - 1)
		for _, p := range []api.Point{{}, {X: s.w - 1}, {Y: s.h - 1}, {X: s.w - 1, Y: s.h - 1}} {
			if e := f.Set(p.X, p.Y, last); e != api.OK {
				t.Errorf("%v: Set of %v: %d", s, p, e)
			}
			if state, e := f.Get(p.X, p.Y); state != last || e != api.OK {
				t.Errorf("%v: Get of %v: %d, %d", s, p, state, e)
			}
		}
		if box, lives := f.Box(); box != (api.Rect{W: s.w, H: s.h}) || !lives {
			t.Errorf("%v: Box %v, %v", s, box, lives)
		}
		if f.Clear() != api.OK || f.Pop() != 0 {
			t.Errorf("%v: not cleared", s)
		}
	}
}

// TestNewFieldsAreApart: no two fields share cells.
func TestNewFieldsAreApart(t *testing.T) {
	for _, packed := range []bool{false, true} {
		f, m := both(t, 70, 3, 2, packed)
		g, n := both(t, 70, 3, 2, packed)
		f.Set(3, 1, 1)
		m.set(3, 1, 1)
		g.Set(66, 2, 1)
		n.set(66, 2, 1)
		is(t, "the one", f, m)
		is(t, "the other", g, n)
	}
}

func TestPackThereAndBack(t *testing.T) {
	d := dice(3)
	for _, s := range kinds() {
		for _, oneOf := range []int{1, 2, 9, 1 << 20} {
			f, m := filled(t, &d, s, oneOf)
			for _, on := range []bool{s.packed, s.packed, !s.packed, !s.packed, s.packed, !s.packed} {
				want := api.OK
				if on && s.states > 2 {
					want = api.ErrPack
				} else {
					m.packed = on
				}
				if e := f.Pack(on); e != want {
					t.Errorf("%v: Pack(%v): %d, not %d", s, on, e, want)
				}
				is(t, "behind Pack", f, m)
			}
		}
	}
}

func TestPackIsRefusedByStatesNotByCells(t *testing.T) {
	for _, states := range []int{3, 4, 255, 256} {
		f, m := both(t, 5, 2, states, false)
		f.Set(1, 1, 1) // no state above 1 stands in it
		m.set(1, 1, 1)
		for range 2 {
			if e := f.Pack(true); e != api.ErrPack {
				t.Errorf("Pack(true) of %d states: %d", states, e)
			}
			is(t, "behind a Pack that was refused", f, m)
			if e := f.Pack(false); e != api.OK {
				t.Errorf("Pack(false) of %d states: %d", states, e)
			}
			is(t, "behind Pack(false)", f, m)
		}
	}
}

// TestPackOnesBehindThePack: what is set behind a Pack is kept, and nothing is left of what was there ahead of an earlier one.
func TestPackOnesBehindThePack(t *testing.T) {
	f, m := both(t, 130, 2, 2, true)
	for i, x := range []int{0, 63, 64, 65, 127, 128, 129} {
		f.Pack(i%2 == 0)
		m.packed = i%2 == 0
		f.Set(x, i%2, 1)
		m.set(x, i%2, 1)
		is(t, "set", f, m)
	}
	for i, x := range []int{129, 64, 0} {
		f.Pack(i%2 == 1)
		m.packed = i%2 == 1
		for y := range 2 {
			f.Set(x, y, 0)
			m.set(x, y, 0)
		}
		is(t, "taken away", f, m)
	}
}
