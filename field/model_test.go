package field_test

import (
	"iter"
	"slices"
	"testing"

	"vivarium/api"
	"vivarium/field"
)

// The model: a list of places with their states, those that live, in no order. What a field answers is worked out of it anew each time.

type model struct {
	w, h, states int
	packed       bool
	cells        map[api.Point]uint8
}

func newModel(w, h, states int, packed bool) *model {
	return &model{w: w, h: h, states: states, packed: packed, cells: map[api.Point]uint8{}}
}

func (m *model) clone() *model {
	c := newModel(m.w, m.h, m.states, m.packed)
	for p, s := range m.cells {
		c.cells[p] = s
	}
	return c
}

func (m *model) set(x, y int, state uint8) {
	delete(m.cells, api.Point{X: x, Y: y})
	if state != 0 {
		m.cells[api.Point{X: x, Y: y}] = state
	}
}

func (m *model) lay(y int, line []uint8) {
	for x, state := range line {
		m.set(x, y, state)
	}
}

func (m *model) line(y int) []uint8 {
	line := make([]uint8, m.w)
	for x := range line {
		line[x] = m.cells[api.Point{X: x, Y: y}]
	}
	return line
}

// list are the living cells, by rows, of one row from the left.
func (m *model) list() []api.Cell {
	var list []api.Cell
	for p, s := range m.cells {
		list = append(list, api.Cell{X: p.X, Y: p.Y, State: s})
	}
	slices.SortFunc(list, func(a, b api.Cell) int { return (a.Y-b.Y)*m.w + a.X - b.X })
	return list
}

// box is the least rectangle: of each edge the place furthest out.
func (m *model) box() (api.Rect, bool) {
	list := m.list()
	if len(list) == 0 {
		return api.Rect{}, false
	}
	least := func(number func(api.Cell) int) int {
		n := number(list[0])
		for _, c := range list {
			n = min(n, number(c))
		}
		return n
	}
	left, top := least(func(c api.Cell) int { return c.X }), least(func(c api.Cell) int { return c.Y })
	right, bottom := -least(func(c api.Cell) int { return -c.X }), -least(func(c api.Cell) int { return -c.Y })
	return api.Rect{X: left, Y: top, W: right + 1 - left, H: bottom + 1 - top}, true
}

// gone is what an iterator goes through.
func gone(cells iter.Seq2[api.Point, uint8]) []api.Cell {
	var list []api.Cell
	for p, s := range cells {
		list = append(list, api.Cell{X: p.X, Y: p.Y, State: s})
	}
	return list
}

// is looks at all that a field answers.
func is(t *testing.T, what string, f *field.Field, m *model) {
	t.Helper()
	if f == nil {
		t.Fatalf("%s: no field", what)
	}
	if f.W() != m.w || f.H() != m.h || f.States() != m.states || f.Packed() != m.packed {
		t.Errorf("%s: %d times %d of %d states, packed %v; not %d times %d of %d, %v", what, f.W(), f.H(), f.States(), f.Packed(), m.w, m.h, m.states, m.packed)
	}
	holds(t, what, f, m)
}

// holds looks at a field's cells alone.
func holds(t *testing.T, what string, f *field.Field, m *model) {
	t.Helper()
	for y := range m.h {
		want := m.line(y)
		if line, e := f.Line(y); e != api.OK || !slices.Equal(line, want) {
			t.Errorf("%s: line %d: %v, %d; not %v", what, y, brief(line), e, brief(want))
		}
		for x := range m.w {
			if state, e := f.Get(x, y); e != api.OK || state != want[x] {
				t.Errorf("%s: (%d, %d): %d, %d; not %d", what, x, y, state, e, want[x])
			}
		}
	}
	list := m.list()
	if pop := f.Pop(); pop != len(list) {
		t.Errorf("%s: Pop %d, not %d", what, pop, len(list))
	}
	box, lives := m.box()
	if r, ok := f.Box(); r != box || ok != lives {
		t.Errorf("%s: Box %v, %v; not %v, %v", what, r, ok, box, lives)
	}
	if got := gone(f.Cells()); !slices.Equal(got, list) {
		t.Errorf("%s: Cells %v, not %v", what, brief(got), brief(list))
	}
}

// brief is the beginning of a list, as a test tells it.
func brief[T any](list []T) []T { return list[:min(len(list), 20)] }

// must is a field that may be.
func must(t *testing.T, w, h, states int, packed bool) *field.Field {
	t.Helper()
	f, e := field.New(w, h, states, packed)
	if f == nil || e != api.OK {
		t.Fatalf("New(%d, %d, %d, %v): %d", w, h, states, packed, e)
	}
	return f
}

// both is a field and its model.
func both(t *testing.T, w, h, states int, packed bool) (*field.Field, *model) {
	t.Helper()
	return must(t, w, h, states, packed), newModel(w, h, states, packed)
}

// filled is a field with cells drawn at random, about one of so many living, and its model.
func filled(t *testing.T, d *dice, s kind, oneOf int) (*field.Field, *model) {
	t.Helper()
	f, m := both(t, s.w, s.h, s.states, s.packed)
	for y := range s.h {
		line := d.line(s.w, s.states, oneOf)
		m.lay(y, line)
		if e := f.Lay(y, line); e != api.OK {
			t.Fatalf("Lay(%d) of %v: %d", y, s, e)
		}
	}
	return f, m
}

// kind is a kind of field.
type kind struct {
	w, h, states int
	packed       bool
}

// kinds are kinds of fields that tests go through: their columns lie about the ends of words of 64.
func kinds() []kind {
	var list []kind
	for _, w := range []int{1, 2, 3, 7, 63, 64, 65, 127, 128, 129, 200} {
		for _, h := range []int{1, 2, 5} {
			list = append(list, kind{w, h, 2, false}, kind{w, h, 2, true})
			list = append(list, kind{w, h, 3, false}, kind{w, h, 256, false})
		}
	}
	return append(list, kind{1, 200, 2, true}, kind{1, 200, 2, false}, kind{2, 70, 4, false})
}

// dice are numbers drawn at random, the same ones each time.
type dice uint64

// below is a number from 0 to n - 1.
func (d *dice) below(n int) int {
	*d = *d*6364136223846793005 + 1442695040888963407
	return int(uint64(*d)>>33) % n
}

// line is a line of states, about one of so many living.
func (d *dice) line(w, states, oneOf int) []uint8 {
	line := make([]uint8, w)
	for x := range line {
		if d.below(oneOf) == 0 {
			line[x] = uint8(1 + d.below(states-1))
		}
	}
	return line
}

// nones are the fields that are none.
func nones() []*field.Field { return []*field.Field{nil, {}, new(field.Field)} }
