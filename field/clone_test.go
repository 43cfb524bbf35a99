package field_test

import (
	"testing"

	"vivarium/api"
	"vivarium/field"
)

// P13.9

func TestCloneIsTheSame(t *testing.T) {
	d := dice(67)
	for _, s := range kinds() {
		for _, oneOf := range []int{1, 2, 30} {
			f, m := filled(t, &d, s, oneOf)
			g := f.Clone()
			is(t, "the clone", g, m)
			is(t, "what was cloned", f, m)
			if g == f || !f.Same(g) || !g.Same(f) {
				t.Errorf("%v: the clone is not another of the same", s)
			}
		}
	}
}

// TestCloneChangesByItself: either one is changed, in whatever way, and the other stays.
func TestCloneChangesByItself(t *testing.T) {
	d := dice(71)
	for _, s := range few() {
		for name, change := range changes(s) {
			f, m := filled(t, &d, s, 2)
			g := f.Clone()
			change(f)
			is(t, "the clone behind "+name, g, m)

			f, m = filled(t, &d, s, 2)
			g = f.Clone()
			change(g)
			is(t, "what was cloned behind "+name, f, m)

			f, m = filled(t, &d, s, 2)
			g = f.Clone()
			third := g.Clone()
			change(f)
			change(g)
			is(t, "the clone's clone behind "+name+" of both", third, m)
		}
	}
}

func TestCloneKeepsHowItIsPacked(t *testing.T) {
	for _, first := range []bool{true, false} {
		for _, then := range []bool{true, false} {
			f := must(t, 65, 2, 2, first)
			f.Set(64, 1, 1)
			f.Pack(then)
			g := f.Clone()
			if g.Packed() != then {
				t.Errorf("New %v, Pack %v: the clone is %v", first, then, g.Packed())
			}
			g.Pack(!then)
			if f.Packed() != then || g.Packed() != !then || !f.Same(g) {
				t.Errorf("New %v, Pack %v: %v, %v", first, then, f.Packed(), g.Packed())
			}
		}
	}
}

func TestSameOfFieldsWithoutCells(t *testing.T) {
	sides := []int{1, 2, 63, 64, 65, 128}
	var fields []*field.Field
	for _, w := range sides {
		for _, h := range []int{1, 2, 64} {
			for _, states := range []int{2, 3, 256} {
				fields = append(fields, must(t, w, h, states, false), must(t, w, h, states, false))
			}
			fields = append(fields, must(t, w, h, 2, true), must(t, w, h, 2, true))
		}
	}
	for _, f := range fields {
		for _, g := range fields {
			want := f.W() == g.W() && f.H() == g.H() && f.States() == g.States()
			if f.Same(g) != want {
				t.Errorf("%d, %d, %d, %v and %d, %d, %d, %v: %v", f.W(), f.H(), f.States(), f.Packed(), g.W(), g.H(), g.States(), g.Packed(), !want)
			}
		}
	}
}

// TestSameOfTheSameNumbers: cells that stand alike, row behind row, in fields of unlike sides are not the same.
func TestSameOfTheSameNumbers(t *testing.T) {
	for _, packed := range []bool{true, false} {
		f, g := must(t, 6, 4, 2, packed), must(t, 4, 6, 2, packed)
		for n := 0; n < 24; n += 5 {
			f.Set(n%6, n/6, 1)
			g.Set(n%4, n/4, 1)
		}
		if f.Same(g) || g.Same(f) {
			t.Error("6 times 4 is the same as 4 times 6")
		}
	}
}

func TestSameOfFieldsThatDifferInOneCell(t *testing.T) {
	d := dice(73)
	for _, s := range kinds() {
		f, _ := filled(t, &d, s, 2)
		for _, y := range []int{0, s.h / 2, s.h - 1} {
			for _, x := range []int{0, s.w / 2, s.w - 1, min(63, s.w-1), min(64, s.w-1)} {
				g := f.Clone()
				if s.states == 2 && d.below(2) == 0 {
					g.Pack(!s.packed)
				}
				was, _ := f.Get(x, y)
				for step := 1; step < min(s.states, 4); step++ {
					g.Set(x, y, uint8((int(was)+step)%s.states))
					if f.Same(g) || g.Same(f) {
						t.Errorf("%v: differ in (%d, %d) by %d and are the same", s, x, y, step)
					}
				}
				g.Set(x, y, was)
				if !f.Same(g) || !g.Same(f) {
					t.Errorf("%v: set back at (%d, %d), and not the same", s, x, y)
				}
			}
		}
	}
}

// TestSameWhateverIsPacked: the four ways in which two fields may be packed, and a field with itself.
func TestSameWhateverIsPacked(t *testing.T) {
	d := dice(79)
	for _, w := range []int{1, 63, 64, 65, 130} {
		f, _ := filled(t, &d, kind{w, 3, 2, false}, 2)
		g := f.Clone()
		for _, on := range []bool{true, false} {
			for _, too := range []bool{true, false} {
				f.Pack(on)
				g.Pack(too)
				if !f.Same(g) || !g.Same(f) || !f.Same(f) {
					t.Errorf("%d columns, packed %v and %v: not the same", w, on, too)
				}
				f.Set(w-1, 2, 1)
				g.Set(w-1, 2, 0)
				if f.Same(g) || g.Same(f) {
					t.Errorf("%d columns, packed %v and %v: the same", w, on, too)
				}
				g.Set(w-1, 2, 1)
			}
		}
	}
}

func TestSameOfFieldsByOtherWays(t *testing.T) {
	f, g := must(t, 70, 2, 2, true), must(t, 70, 2, 2, true)
	line := make([]uint8, 70)
	line[0], line[63], line[69] = 1, 1, 1
	f.Lay(1, line)
	for _, x := range []int{69, 0, 63} {
		if f.Same(g) {
			t.Errorf("the same ahead of (%d, 1)", x)
		}
		if e := g.Set(x, 1, 1); e != api.OK {
			t.Error(e)
		}
	}
	if !f.Same(g) {
		t.Error("not the same")
	}
}
