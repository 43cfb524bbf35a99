package step_test

import (
	"reflect"
	"slices"
	"sync"
	"testing"

	"vivarium/api"
	"vivarium/field"
	"vivarium/ring"
	"vivarium/step"
)

// P15.2's 'another field' and 'f stays as it is', and DOC.md's 'Memory'.

// changes are ways to change a field of two states, or of more.
func changes() map[string]func(*field.Field) {
	return map[string]func(*field.Field){
		"Set": func(f *field.Field) {
			state, _ := f.Get(0, 0)
			f.Set(0, 0, 1-min(state, 1))
		},
		"Lay": func(f *field.Field) {
			line, _ := f.Line(f.H() - 1)
			for x := range line {
				line[x] = 1 - min(line[x], 1)
			}
			f.Lay(f.H()-1, line)
		},
		"Clear": func(f *field.Field) { f.Clear() },
		"Pack":  func(f *field.Field) { f.Pack(!f.Packed()) },
	}
}

// TestRunAnswersAnotherField: with 0 generations too, and where nothing changes; either one is changed behind the call, and the other stays.
func TestRunAnswersAnotherField(t *testing.T) {
	d := dice(103)
	still := births(api.Moore, 0, 1<<9-1) // what lives stays, nothing is born
	for _, r := range append(fewRules(), still) {
		for _, a := range slices.Concat(someOf(1, 1), someOf(3, 2), someOf(65, 2)) {
			for _, packed := range []bool{false, statesOf(r) == 2} {
				for _, n := range []int{0, 1, 2} {
					for name, change := range changes() {
						f := made(t, a.W, a.H, statesOf(r), packed, d.cells(a.W*a.H, statesOf(r)))
						g := mustRun(t, r, a, f, n)
						changesAlone(t, name, change, f, g)
						f = made(t, a.W, a.H, statesOf(r), packed, d.cells(a.W*a.H, statesOf(r)))
						changesAlone(t, name, change, mustRun(t, r, a, f, n), f)
					}
				}
			}
		}
	}
}

// changesAlone changes one field and looks whether another stays as it is.
func changesAlone(t *testing.T, name string, change func(*field.Field), one, other *field.Field) {
	t.Helper()
	cells, packed := cellsOf(t, other), other.Packed()
	change(one)
	if !slices.Equal(cellsOf(t, other), cells) || other.Packed() != packed {
		t.Fatalf("%s of one field changed the other", name)
	}
}

// TestRunsAnswersAreUnlikeFields: two answers of the same call change each by itself.
func TestRunsAnswersAreUnlikeFields(t *testing.T) {
	d := dice(107)
	a := api.Topo{Kind: api.Cross, W: 5, H: 4}
	for _, r := range fewRules() {
		f := made(t, 5, 4, statesOf(r), false, d.cells(20, statesOf(r)))
		for _, n := range []int{0, 1, 3} {
			for name, change := range changes() {
				changesAlone(t, name, change, mustRun(t, r, a, f, n), mustRun(t, r, a, f, n))
			}
		}
	}
}

// overwrite writes other numbers into all lists of a rule.
func overwrite(r api.Rule) {
	for i := range r.Table.Vars {
		for j := range r.Table.Vars[i].States {
			r.Table.Vars[i].States[j] = 0
		}
		r.Table.Vars[i].Name = "z"
	}
	for i := range r.Table.Rows {
		for j := range r.Table.Rows[i].Around {
			r.Table.Rows[i].Around[j] = st(0)
		}
		r.Table.Rows[i].Centre, r.Table.Rows[i].Out = st(1), st(0)
	}
}

// TestRulesWrittenOverBehindTheCall: neither a field that was answered nor what is asked of the same rule again hangs on the memory of one that was handed in.
func TestRulesWrittenOverBehindTheCall(t *testing.T) {
	d := dice(109)
	a := api.Topo{Kind: api.Klein, W: 5, H: 4, Turn: api.TurnWide, Shift: 2}
	for _, r := range allRules() {
		cells := d.cells(20, statesOf(r))
		f := made(t, 5, 4, statesOf(r), false, cells)
		want := modelRun(r, a, cells, 2)
		handed := copied(r)
		g := mustRun(t, handed, a, f, 2)
		if !reflect.DeepEqual(handed, r) {
			t.Errorf("%v: the rule was changed", brief(r))
		}
		state, e := step.Cell(handed, mustFrame(t, a, f), 2, 1)
		overwrite(handed)
		hasCells(t, "written over", r, a, g, want)
		again, refused := step.Cell(r, mustFrame(t, a, f), 2, 1)
		if state != again || e != api.OK || refused != api.OK {
			t.Errorf("%v: Cell: %d, %d; again: %d, %d", brief(r), state, e, again, refused)
		}
		hasCells(t, "asked again", r, a, mustRun(t, r, a, f, 2), want)
	}
}

// TestCellOnlyReads: the rule and the frame, its spare room included, whatever it answers.
func TestCellOnlyReads(t *testing.T) {
	d := dice(113)
	for _, r := range fewRules() {
		f := d.frame(4, 3, statesOf(r)+1)
		f.Cells = append(f.Cells, 5, 6, 7)[:len(f.Cells)]
		before, handed := slices.Clone(f.Cells[:cap(f.Cells)]), copied(r)
		for y := -1; y <= f.H; y++ {
			for x := -1; x <= f.W; x++ {
				step.Cell(handed, f, x, y)
				step.Cell(handed, api.Frame{W: 4, H: 3, Cells: f.Cells[1:]}, x, y)
			}
		}
		if !slices.Equal(f.Cells[:cap(f.Cells)], before) || !reflect.DeepEqual(handed, r) {
			t.Errorf("%v: the frame or the rule was changed", brief(r))
		}
	}
}

// TestFramesWrittenOverBehindCell: what Cell said of a frame is not said of it when it has become another.
func TestFramesWrittenOverBehindCell(t *testing.T) {
	d := dice(127)
	for _, r := range fewRules() {
		f := d.frame(3, 3, statesOf(r))
		for range 20 {
			copy(f.Cells, d.cells(len(f.Cells), statesOf(r)))
			if got, want := mustCell(t, r, f, 1, 1), modelNext(r, f.Cells[inFrame(f, 1, 1)], aroundIn(f, hoodOf(r), 1, 1)); got != want {
				t.Errorf("%v: %d, not %d", brief(r), got, want)
			}
		}
	}
}

// TestRunsBesideEachOther: calls that share a field, a frame and a rule, in several goroutines, answer what each answers alone.
func TestRunsBesideEachOther(t *testing.T) {
	d := dice(131)
	a := api.Topo{Kind: api.Sphere, W: 9, H: 9}
	for _, r := range fewRules() {
		cells := d.cells(81, statesOf(r))
		f := made(t, 9, 9, statesOf(r), false, cells)
		want := made(t, 9, 9, statesOf(r), false, modelRun(r, a, cells, 4))
		frame, _ := ring.Bytes(a, f)
		first, _ := step.Cell(r, frame, 8, 8)
		var all sync.WaitGroup
		for range 8 {
			all.Go(func() {
				if g, e := step.Run(r, a, f, 4); e != api.OK || !g.Same(want) {
					t.Errorf("%v: another answer beside others, %d", brief(r), e)
				}
				if state, e := step.Cell(r, frame, 8, 8); e != api.OK || state != first {
					t.Errorf("%v: another cell beside others, %d", brief(r), e)
				}
			})
		}
		all.Wait()
	}
}
