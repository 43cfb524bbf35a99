package field_test

import (
	"slices"
	"testing"

	"vivarium/api"
)

// Lines that are handed in are only read, their spare room too, and not kept; what is answered is memory of its own.

// roomy is a list with spare room behind it, in which stands junk.
func roomy[T any](list []T, junk T) []T {
	return append(slices.Clone(list), junk, junk, junk)[:len(list)]
}

func TestLinesHandedInAreOnlyRead(t *testing.T) {
	d := dice(103)
	for _, s := range kinds() {
		f := must(t, s.w, s.h, s.states, s.packed)
		bad := d.line(s.w, s.states, 2)
		bad[s.w-1] = 255
		for _, plain := range [][]uint8{d.line(s.w, s.states, 2), bad, d.line(s.w+1, s.states, 2), d.line(s.w-1, s.states, 2)} {
			line := roomy(plain, 77)
			before := slices.Clone(line[:cap(line)])
			f.Lay(s.h-1, line)
			f.Set(0, s.h-1, 1)
			f.Line(s.h - 1)
			f.Pack(!f.Packed())
			f.Clear()
			if !slices.Equal(line[:cap(line)], before) {
				t.Errorf("%v: a line came to be %v, not %v", s, brief(line), brief(before))
			}
		}
	}
}

func TestLinesHandedInAreNotKept(t *testing.T) {
	d := dice(107)
	for _, s := range kinds() {
		f, m := both(t, s.w, s.h, s.states, s.packed)
		line := roomy(d.line(s.w, s.states, 2), 77)
		for y := range s.h {
			f.Lay(y, line)
			m.lay(y, line)
		}
		spoil(line)
		is(t, "the line written over", f, m)
	}
}

// spoil writes over a list up to the end of its spare room.
func spoil(line []uint8) {
	line = line[:cap(line)]
	for i := range line {
		line[i] = ^line[i]
	}
}

func TestLinesAnsweredAreTheCallersOwn(t *testing.T) {
	d := dice(109)
	for _, s := range kinds() {
		f, m := filled(t, &d, s, 2)
		for y := range s.h {
			first, _ := f.Line(y)
			second, _ := f.Line(y)
			spoil(first)
			if !slices.Equal(second, m.line(y)) {
				t.Errorf("%v: two answers share memory", s)
			}
			spoil(second)
		}
		is(t, "the answers written over", f, m)
		third, _ := f.Line(s.h - 1)
		f.Clear()
		if !slices.Equal(third, m.line(s.h-1)) {
			t.Errorf("%v: an answer changed with the field", s)
		}
	}
}

// TestCallsThatAskChangeNothing: each of them, with right and with wrong arguments.
func TestCallsThatAskChangeNothing(t *testing.T) {
	d := dice(113)
	for _, s := range kinds() {
		f, m := filled(t, &d, s, 2)
		g := f.Clone()
		for _, n := range []int{-1, 0, s.h - 1, s.h, s.w, 1 << 40} {
			f.Get(n, n)
			f.Line(n)
		}
		f.Pop()
		f.Box()
		gone(f.Cells())
		f.Clone().Clear()
		f.Same(g)
		f.Same(nil)
		if e := f.Lay(0, nil); e != api.ErrLength {
			t.Errorf("%v: %d", s, e)
		}
		is(t, "asked", f, m)
		is(t, "compared", g, m)
	}
}
