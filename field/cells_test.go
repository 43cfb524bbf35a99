package field_test

import (
	"slices"
	"testing"

	"vivarium/api"
	"vivarium/field"
)

// P13.8

// few are kinds of fields with few enough cells to be gone through within one another.
func few() []kind {
	return []kind{{1, 1, 2, true}, {1, 1, 2, false}, {66, 3, 2, true}, {66, 3, 2, false}, {66, 3, 7, false}, {5, 4, 256, false}, {1, 70, 2, true}}
}

func TestCellsInTheirOrder(t *testing.T) {
	d := dice(41)
	for _, s := range kinds() {
		for _, oneOf := range []int{1, 2, 20, 1 << 20} {
			f, m := filled(t, &d, s, oneOf)
			cells := f.Cells()
			if cells == nil {
				t.Fatalf("%v: Cells is nil", s)
			}
			for range 2 {
				if got := gone(cells); !slices.Equal(got, m.list()) {
					t.Errorf("%v: %v, not %v", s, brief(got), brief(m.list()))
				}
			}
		}
	}
}

func TestCellsMayBeLeftAtAnyStep(t *testing.T) {
	d := dice(43)
	for _, s := range few() {
		f, m := filled(t, &d, s, 2)
		want, cells := m.list(), f.Cells()
		for stop := range want {
			var got []api.Cell
			for p, state := range cells {
				got = append(got, api.Cell{X: p.X, Y: p.Y, State: state})
				if len(got) == stop+1 {
					break
				}
			}
			if !slices.Equal(got, want[:stop+1]) {
				t.Errorf("%v: left at %d: %v", s, stop, brief(got))
			}
		}
		if got := gone(cells); !slices.Equal(got, want) {
			t.Errorf("%v: gone through again: %v, not %v", s, brief(got), brief(want))
		}
	}
}

// TestCellsAreNotToldBehindTheLast: one that wants no more is not asked again, be it in the same row or in the next one.
func TestCellsAreNotToldBehindTheLast(t *testing.T) {
	d := dice(47)
	for _, s := range few() {
		f, m := filled(t, &d, s, 1)
		for stop := range len(m.cells) {
			told := 0
			f.Cells()(func(api.Point, uint8) bool {
				told++
				return told <= stop
			})
			if told != stop+1 {
				t.Errorf("%v: told %d times, not %d", s, told, stop+1)
			}
		}
	}
}

func TestCellsWithinOneAnother(t *testing.T) {
	d := dice(53)
	for _, s := range few() {
		f, m := filled(t, &d, s, 5)
		want, cells := m.list(), f.Cells()
		i := 0
		for p, state := range cells {
			if i >= len(want) || want[i] != (api.Cell{X: p.X, Y: p.Y, State: state}) {
				t.Fatalf("%v: step %d: %v, %d", s, i, p, state)
			}
			i++
			if got := gone(cells); !slices.Equal(got, want) {
				t.Errorf("%v: within itself: %v", s, brief(got))
			}
			for range f.Cells() {
				break
			}
		}
		if i != len(want) {
			t.Errorf("%v: %d steps, not %d", s, i, len(want))
		}
	}
}

// changes are all that may be done to a field, so that its cells or how they are kept are others.
func changes(s kind) map[string]func(*field.Field) {
	full := slices.Repeat([]uint8{uint8(s.states - 1)}, s.w)
	return map[string]func(*field.Field){
		"Set": func(f *field.Field) {
			for y := range s.h {
				for x := range s.w {
					state, _ := f.Get(x, y)
					f.Set(x, y, uint8((int(state)+1)%s.states))
				}
			}
		},
		"Lay": func(f *field.Field) {
			for y := range s.h {
				f.Lay(y, full)
			}
		},
		"Clear":       func(f *field.Field) { f.Clear() },
		"Pack(true)":  func(f *field.Field) { f.Pack(true) },
		"Pack(false)": func(f *field.Field) { f.Pack(false) },
		"Pack, Clear": func(f *field.Field) { f.Pack(!f.Packed()); f.Clear() },
		"Clear, Pack": func(f *field.Field) { f.Clear(); f.Pack(!f.Packed()) },
	}
}

func TestCellsAreThoseThatLivedThen(t *testing.T) {
	d := dice(59)
	for _, s := range few() {
		for name, change := range changes(s) {
			f, m := filled(t, &d, s, 2)
			want, cells := m.list(), f.Cells()
			change(f)
			for range 2 {
				if got := gone(cells); !slices.Equal(got, want) {
					t.Errorf("%v: asked ahead of %s: %v, not %v", s, name, brief(got), brief(want))
				}
				change(f)
			}
		}
	}
}

func TestCellsOfAFieldThatIsChangedOnTheWay(t *testing.T) {
	d := dice(61)
	for _, s := range few() {
		for name, change := range changes(s) {
			f, m := filled(t, &d, s, 2)
			want := m.list()
			var got []api.Cell
			for p, state := range f.Cells() {
				got = append(got, api.Cell{X: p.X, Y: p.Y, State: state})
				change(f)
			}
			if !slices.Equal(got, want) {
				t.Errorf("%v: %s on the way: %v, not %v", s, name, brief(got), brief(want))
			}
		}
	}
}

// TestCellsAskedAtTwoTimes: each goes through what was there at its own time.
func TestCellsAskedAtTwoTimes(t *testing.T) {
	for _, packed := range []bool{true, false} {
		f := must(t, 70, 2, 2, packed)
		f.Set(64, 0, 1)
		first := f.Cells()
		f.Set(63, 1, 1)
		f.Set(64, 0, 0)
		second := f.Cells()
		f.Clear()
		third := f.Cells()
		for range 2 {
			if got := gone(first); !slices.Equal(got, []api.Cell{{X: 64, State: 1}}) {
				t.Errorf("the first: %v", got)
			}
			if got := gone(second); !slices.Equal(got, []api.Cell{{X: 63, Y: 1, State: 1}}) {
				t.Errorf("the second: %v", got)
			}
			if got := gone(third); got != nil {
				t.Errorf("the third: %v", got)
			}
		}
	}
}
