package field_test

import (
	"slices"
	"testing"

	"vivarium/api"
	"vivarium/field"
)

// P13.10

// act is one call that changes, or would change, a field. What it is told may be wrong.
type act struct {
	what  int
	x, y  int
	state uint8
	line  []uint8
}

// act draws a call for fields of these sides.
func (d *dice) act(s kind) act {
	a := act{what: d.below(8), x: d.below(s.w+4) - 2, y: d.below(s.h+2) - 1}
	if d.below(3) > 0 {
		a.x, a.y = d.below(s.w), d.below(s.h)
	}
	a.state = uint8(min(d.below(s.states+1), 255))
	n := s.w
	if d.below(6) == 0 {
		n = d.below(2*s.w + 1)
	}
	a.line = d.line(n, s.states, 1+d.below(4))
	if n > 0 && d.below(6) == 0 {
		a.line[d.below(n)] = uint8(min(s.states, 255))
	}
	return a
}

// do is what a field answers to an act, and how a model comes out of it.
func (a act) do(f *field.Field, m *model) (got, want api.Errno) {
	switch a.what {
	case 0:
		want = api.OK
		clear(m.cells)
		return f.Clear(), want
	case 1, 2:
		if want = m.layErr(a.y, a.line); want == api.OK {
			m.lay(a.y, a.line)
		}
		return f.Lay(a.y, a.line), want
	default:
		if want = m.setErr(a.x, a.y, a.state); want == api.OK {
			m.set(a.x, a.y, a.state)
		}
		return f.Set(a.x, a.y, a.state), want
	}
}

func (m *model) setErr(x, y int, state uint8) api.Errno {
	switch {
	case x < 0 || x >= m.w || y < 0 || y >= m.h:
		return api.ErrPlace
	case int(state) >= m.states:
		return api.ErrState
	}
	return api.OK
}

func (m *model) layErr(y int, line []uint8) api.Errno {
	switch {
	case y < 0 || y >= m.h:
		return api.ErrPlace
	case len(line) != m.w:
		return api.ErrLength
	case slices.ContainsFunc(line, func(s uint8) bool { return int(s) >= m.states }):
		return api.ErrState
	}
	return api.OK
}

// TestScriptsOnBytesAndOnBits: the same calls on a field of bytes, on one of bits and on one that is packed and unpacked in their midst; all answer what the model says.
func TestScriptsOnBytesAndOnBits(t *testing.T) {
	d := dice(83)
	for _, w := range []int{1, 2, 5, 63, 64, 65, 130} {
		for _, h := range []int{1, 3, 7} {
			script(t, &d, kind{w: w, h: h, states: 2}, 120)
		}
	}
}

func script(t *testing.T, d *dice, s kind, steps int) {
	t.Helper()
	names := []string{"of bytes", "of bits", "packed in its midst"}
	fields := []*field.Field{must(t, s.w, s.h, 2, false), must(t, s.w, s.h, 2, true), must(t, s.w, s.h, 2, d.below(2) == 0)}
	models := []*model{newModel(s.w, s.h, 2, false), newModel(s.w, s.h, 2, true), newModel(s.w, s.h, 2, fields[2].Packed())}
	for range steps {
		if d.below(3) == 0 {
			on := d.below(2) == 0
			models[2].packed = on
			if e := fields[2].Pack(on); e != api.OK {
				t.Fatalf("Pack(%v): %d", on, e)
			}
		}
		a := d.act(s)
		for i, f := range fields {
			if got, want := a.do(f, models[i]); got != want {
				t.Fatalf("%v %s: %v: %d, not %d", s, names[i], a, got, want)
			}
			is(t, names[i], f, models[i])
			if !f.Same(fields[0]) || !fields[0].Same(f) {
				t.Fatalf("%v: %s it is not the same", s, names[i])
			}
		}
		if t.Failed() {
			t.FailNow()
		}
	}
}

// TestScriptsOfMoreStates: of bytes alone; each Pack(true) in their midst is refused and changes nothing.
func TestScriptsOfMoreStates(t *testing.T) {
	d := dice(89)
	for _, s := range []kind{{1, 1, 3, false}, {4, 3, 3, false}, {65, 2, 4, false}, {9, 5, 255, false}, {9, 5, 256, false}} {
		f, m := both(t, s.w, s.h, s.states, false)
		for range 200 {
			a := d.act(s)
			if got, want := a.do(f, m); got != want {
				t.Fatalf("%v: %v: %d, not %d", s, a, got, want)
			}
			if e := f.Pack(true); e != api.ErrPack {
				t.Fatalf("%v: Pack(true): %d", s, e)
			}
			if e := f.Pack(false); e != api.OK {
				t.Fatalf("%v: Pack(false): %d", s, e)
			}
			is(t, "a script", f, m)
		}
	}
}

func TestBehindLayLineIsThatLine(t *testing.T) {
	d := dice(97)
	for _, s := range kinds() {
		f := must(t, s.w, s.h, s.states, s.packed)
		for range 5 {
			y, line := d.below(s.h), d.line(s.w, s.states, 1+d.below(3))
			if e := f.Lay(y, line); e != api.OK {
				t.Fatalf("%v: Lay: %d", s, e)
			}
			if got, e := f.Line(y); e != api.OK || !slices.Equal(got, line) {
				t.Errorf("%v: Line(%d): %v, %d", s, y, brief(got), e)
			}
			for x, want := range line {
				if state, e := f.Get(x, y); state != want || e != api.OK {
					t.Errorf("%v: Get(%d, %d): %d, %d, not %d", s, x, y, state, e, want)
				}
			}
		}
	}
}

// TestPopCellsAndBoxGoTogether: of the calls alone, without a model.
func TestPopCellsAndBoxGoTogether(t *testing.T) {
	d := dice(101)
	for _, s := range kinds() {
		for _, oneOf := range []int{1, 5, 60, 400} {
			f, _ := filled(t, &d, s, oneOf)
			box, lives := f.Box()
			n, left, right, top, bottom := 0, false, false, false, false
			for p, state := range f.Cells() {
				n++
				if got, e := f.Get(p.X, p.Y); got != state || state == 0 || e != api.OK {
					t.Errorf("%v: Cells says %v is %d, Get %d, %d", s, p, state, got, e)
				}
				if p.X < box.X || p.X >= box.X+box.W || p.Y < box.Y || p.Y >= box.Y+box.H {
					t.Errorf("%v: %v is outside of %v", s, p, box)
				}
				left, right = left || p.X == box.X, right || p.X == box.X+box.W-1
				top, bottom = top || p.Y == box.Y, bottom || p.Y == box.Y+box.H-1
			}
			if n != f.Pop() || lives != (n > 0) {
				t.Errorf("%v: Pop %d, Cells %d, Box %v", s, f.Pop(), n, lives)
			}
			if lives && !(left && right && top && bottom) {
				t.Errorf("%v: an edge of %v has no living cell", s, box)
			}
		}
	}
}
