package field_test

import (
	"slices"
	"testing"

	"vivarium/api"
)

// P13.5

func TestLineAndLayOfEachRow(t *testing.T) {
	d := dice(13)
	for _, s := range kinds() {
		for _, oneOf := range []int{1, 2, 30} {
			f, m := filled(t, &d, s, oneOf)
			is(t, "laid", f, m)
			for y := range s.h {
				line := d.line(s.w, s.states, oneOf+1)
				if e := f.Lay(y, line); e != api.OK {
					t.Errorf("%v: Lay(%d): %d", s, y, e)
				}
				m.lay(y, line)
				is(t, "laid over", f, m)
			}
			for y := range s.h {
				if e := f.Lay(y, make([]uint8, s.w)); e != api.OK {
					t.Errorf("%v: Lay(%d) of nothing: %d", s, y, e)
				}
				m.lay(y, make([]uint8, s.w))
				is(t, "laid with nothing", f, m)
			}
		}
	}
}

func TestNoSuchRow(t *testing.T) {
	d := dice(17)
	for _, s := range kinds() {
		f, m := filled(t, &d, s, 2)
		lines := [][]uint8{make([]uint8, s.w), d.line(s.w, s.states, 1), nil, make([]uint8, s.w+1), slices.Repeat([]uint8{255}, s.w)}
		for _, y := range beyond(s.h) {
			if line, e := f.Line(y); line != nil || e != api.ErrPlace {
				t.Errorf("%v: Line(%d): %v, %d", s, y, brief(line), e)
			}
			for i, line := range lines { // too long a line, or states too many: the row counts ahead of them
				if e := f.Lay(y, line); e != api.ErrPlace {
					t.Errorf("%v: Lay(%d) of line %d: %d", s, y, i, e)
				}
			}
		}
		is(t, "behind refused ones", f, m)
	}
}

func TestLinesOfAnotherLength(t *testing.T) {
	d := dice(19)
	for _, s := range kinds() {
		f, m := filled(t, &d, s, 2)
		for _, n := range []int{0, 1, s.w - 1, s.w + 1, s.w - 64, s.w + 64, 2 * s.w, s.w * s.h, 3 * s.w, 64, 128} {
			if n == s.w || n < 0 {
				continue
			}
			lines := [][]uint8{make([]uint8, n), d.line(n, s.states, 1), slices.Repeat([]uint8{255}, n)} // its length counts ahead of its states
			if n == 0 {
				lines = append(lines, nil)
			}
			for _, y := range []int{0, s.h - 1} {
				for i, line := range lines {
					if e := f.Lay(y, line); e != api.ErrLength {
						t.Errorf("%v: Lay(%d) of %d states, line %d: %d", s, y, n, i, e)
					}
				}
			}
		}
		is(t, "behind refused ones", f, m)
	}
}

// TestLinesWithAStateTooMany: wherever it stands, the row stays as it was.
func TestLinesWithAStateTooMany(t *testing.T) {
	d := dice(23)
	for _, s := range kinds() {
		if s.states == 256 {
			continue
		}
		f, m := filled(t, &d, s, 2)
		for _, at := range []int{0, s.w / 2, s.w - 1} {
			for _, bad := range []int{s.states, s.states + 1, 255} {
				line := d.line(s.w, s.states, 2)
				line[at] = uint8(bad)
				for _, y := range []int{0, s.h - 1} {
					if e := f.Lay(y, line); e != api.ErrState {
						t.Errorf("%v: Lay(%d) with %d at %d: %d", s, y, bad, at, e)
					}
				}
			}
		}
		is(t, "behind refused ones", f, m)
	}
}

func TestEachPlaceOfALineIsLookedAt(t *testing.T) {
	for _, s := range []kind{{200, 2, 2, true}, {200, 2, 2, false}, {200, 2, 255, false}} {
		f, m := both(t, s.w, s.h, s.states, s.packed)
		for x := range s.w {
			line := make([]uint8, s.w)
			line[x] = uint8(s.states)
			if e := f.Lay(1, line); e != api.ErrState {
				t.Errorf("%v: Lay with a state too many at %d: %d", s, x, e)
			}
		}
		is(t, "behind refused ones", f, m)
	}
}

func TestLinesAtTheLimits(t *testing.T) {
	d := dice(29)
	for _, s := range []kind{{65536, 16, 2, true}, {65536, 16, 2, false}, {65536, 16, 256, false}, {16, 65536, 2, true}, {1024, 1024, 2, true}} {
		f := must(t, s.w, s.h, s.states, s.packed)
		for _, y := range []int{0, s.h / 2, s.h - 1} {
			line := d.line(s.w, s.states, 2)
			if e := f.Lay(y, line); e != api.OK {
				t.Errorf("%v: Lay(%d): %d", s, y, e)
			}
			if got, e := f.Line(y); e != api.OK || !slices.Equal(got, line) {
				t.Errorf("%v: Line(%d) is not what was laid, %d", s, y, e)
			}
			if e := f.Lay(y, line[1:]); e != api.ErrLength {
				t.Errorf("%v: Lay(%d) of a line that is too short: %d", s, y, e)
			}
			if e := f.Lay(y, append(line, 0)); e != api.ErrLength {
				t.Errorf("%v: Lay(%d) of a line that is too long: %d", s, y, e)
			}
		}
	}
}
