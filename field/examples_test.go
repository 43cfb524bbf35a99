package field_test

import (
	"slices"
	"testing"

	"vivarium/api"
	"vivarium/field"
)

// The rows of the chapter's section Examples, in their order.

func TestExamplesOfNew(t *testing.T) {
	refused(t, 0, 1, 2, false, api.ErrArg)
	refused(t, 1, 65537, 2, false, api.ErrArg)
	refused(t, 1, 1, 1, true, api.ErrArg)
	refused(t, 1, 1, 3, true, api.ErrPack)
	refused(t, 1025, 1024, 2, true, api.ErrBudget)
	must(t, 1024, 1024, 2, true)
}

// exampleField is the one that the rows from the second one on speak of, behind its calls.
func exampleField(t *testing.T) *field.Field {
	t.Helper()
	f := must(t, 3, 2, 4, false)
	if e := f.Set(2, 1, 3); e != api.OK {
		t.Error(e)
	}
	if state, e := f.Get(2, 1); state != 3 || e != api.OK {
		t.Error(state, e)
	}
	if e := f.Set(3, 0, 9); e != api.ErrPlace {
		t.Error(e)
	}
	if e := f.Set(0, 0, 4); e != api.ErrState {
		t.Error(e)
	}
	if state, e := f.Get(0, 2); state != 0 || e != api.ErrPlace {
		t.Error(state, e)
	}
	return f
}

func TestExamplesOfLines(t *testing.T) {
	laid(t, exampleField(t))
}

func laid(t *testing.T, f *field.Field) *field.Field {
	t.Helper()
	if line, e := f.Line(1); !slices.Equal(line, []uint8{0, 0, 3}) || e != api.OK {
		t.Error(line, e)
	}
	if line, e := f.Line(2); line != nil || e != api.ErrPlace {
		t.Error(line, e)
	}
	if e := f.Lay(0, []uint8{1, 0}); e != api.ErrLength {
		t.Error(e)
	}
	if e := f.Lay(0, []uint8{1, 0, 4}); e != api.ErrState {
		t.Error(e)
	}
	if e := f.Lay(0, []uint8{1, 0, 2}); e != api.OK {
		t.Error(e)
	}
	return f
}

func TestExamplesOfPopBoxAndCells(t *testing.T) {
	f := laid(t, exampleField(t))
	if f.Pop() != 3 {
		t.Error(f.Pop())
	}
	if box, lives := f.Box(); box != (api.Rect{X: 0, Y: 0, W: 3, H: 2}) || !lives {
		t.Error(box, lives)
	}
	if got := gone(f.Cells()); !slices.Equal(got, []api.Cell{{X: 0, Y: 0, State: 1}, {X: 2, Y: 0, State: 2}, {X: 2, Y: 1, State: 3}}) {
		t.Error(got)
	}
}

func TestExamplesOfPackAndClear(t *testing.T) {
	f := laid(t, exampleField(t))
	if e := f.Pack(true); e != api.ErrPack {
		t.Error(e)
	}
	g := must(t, 3, 2, 2, false)
	if e := g.Pack(true); e != api.OK || !g.Packed() {
		t.Error(e, g.Packed())
	}
	if e := f.Clear(); e != api.OK || f.Pop() != 0 {
		t.Error(e, f.Pop())
	}
	if box, lives := f.Box(); box != (api.Rect{}) || lives {
		t.Error(box, lives)
	}
}

func TestExamplesOfNil(t *testing.T) {
	var f *field.Field
	if state, e := f.Get(0, 0); f.W() != 0 || state != 0 || e != api.ErrNil || f.Pop() != 0 || f.Clone() != nil || f.Same(nil) {
		t.Error("nil answers otherwise")
	}
}
