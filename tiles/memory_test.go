package tiles_test

import (
	"reflect"
	"sync"
	"testing"

	"vivarium/api"
)

// DOC.md's 'Memory', R1 and R2; of fields see also TestNewKeepsOnlyTheCells and TestFieldIsAnotherEachTime.

// overwrite writes other numbers into all lists of a rule, up to the ends of their memory.
func overwrite(r api.Rule) {
	for i := range r.Table.Vars {
		for j := range r.Table.Vars[i].States {
			r.Table.Vars[i].States[j] = 0
		}
		r.Table.Vars[i] = api.Var{Name: "z"}
	}
	for i := range r.Table.Rows {
		for j := range r.Table.Rows[i].Around {
			r.Table.Rows[i].Around[j] = st(0)
		}
		r.Table.Rows[i] = api.Trans{Centre: st(1), Out: st(0)}
	}
}

// overwriteStates, overwriteAround: the innermost lists alone, or only what holds them.
func overwriteStates(r api.Rule) {
	for _, v := range r.Table.Vars {
		clear(v.States)
	}
}

func overwriteAround(r api.Rule) {
	for _, row := range r.Table.Rows {
		for j := range row.Around {
			row.Around[j] = st(1)
		}
	}
}

// TestRulesWrittenOverBehindNew: the board goes on with the rule that it was handed, and leaves it as it is.
func TestRulesWrittenOverBehindNew(t *testing.T) {
	d := dice(173)
	a := api.Topo{Kind: api.Klein, W: 18, H: 4, Turn: api.TurnWide, Shift: 2}
	for _, r := range allRules() {
		for _, write := range []func(api.Rule){overwrite, overwriteStates, overwriteAround} {
			handed := copied(r)
			cells := d.cells(a.W*a.H, statesOf(r))
			b := mustNew(t, handed, a, made(t, a.W, a.H, statesOf(r), false, cells), 3)
			p := pair{t, b, newModel(r, a, cells)}
			p.step(1)
			if !reflect.DeepEqual(handed, r) {
				t.Errorf("%v: the rule was changed", brief(r))
			}
			write(handed)
			p.step(2)
		}
	}
}

// TestBoardsChangeEachByItself: two boards of one field and one rule.
func TestBoardsChangeEachByItself(t *testing.T) {
	d := dice(179)
	for _, r := range fewRules() {
		for _, a := range someOf(18, 17) {
			cells := d.cells(a.W*a.H, statesOf(r))
			f := made(t, a.W, a.H, statesOf(r), false, cells)
			one, other := pair{t, mustNew(t, r, a, f, 2), newModel(r, a, cells)}, pair{t, mustNew(t, r, a, f, 2), newModel(r, a, cells)}
			one.step(2)
			other.look()
			other.set(3, 3, 1)
			one.look()
			other.step(1)
			one.look()
			one.step(1)
			other.look()
		}
	}
}

// TestBoardsBesideEachOther: boards that are stepped in several goroutines, of one field and one rule, come to what each comes to alone.
func TestBoardsBesideEachOther(t *testing.T) {
	d := dice(181)
	a := api.Topo{Kind: api.Sphere, W: 40, H: 40}
	for _, r := range fewRules() {
		f := made(t, a.W, a.H, statesOf(r), false, d.few(a.W*a.H, statesOf(r), 8))
		want := mustRun(t, r, a, f, 6)
		var all sync.WaitGroup
		for workers := 1; workers <= 16; workers += 3 {
			b := mustNew(t, r, a, f, workers)
			all.Go(func() {
				e := b.Step(2)
				refused := b.Step(4)
				if g, _ := b.Field(); e != api.OK || refused != api.OK || !g.Same(want) {
					t.Errorf("%v: another answer beside others, %d, %d", brief(r), e, refused)
				}
			})
		}
		all.Wait()
	}
}
