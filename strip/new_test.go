package strip_test

import (
	"math"
	"reflect"
	"testing"

	"vivarium/api"
	"vivarium/rule"
	"vivarium/strip"
	"vivarium/topo"
	"vivarium/window"
)

// P21.1, and seas that are none.

// wantNew is what the chapter asks of New, one behind the other; what window.Check asks is told anew.
func wantNew(r api.Rule, t api.Topo, nodes int) api.Errno {
	switch {
	case rule.Check(r) != api.OK:
		return api.ErrRule
	case topo.Check(t) != api.OK:
		return api.ErrTopo
	case t.W == 0 && t.H == 0:
		return api.ErrUnbounded
	case t.W != 0 && t.H != 0:
		return api.ErrFinite
	case t.W == 0:
		return api.ErrLying
	case !quiet(r):
		return api.ErrLoud
	case nodes < 1 || nodes > 1048576:
		return api.ErrArg
	}
	return api.OK
}

// TestNewOfAny: each error, and which counts where several would.
func TestNewOfAny(t *testing.T) {
	met := map[api.Errno]int{}
	look := func(r api.Rule, a api.Topo, nodes int) {
		want := wantNew(r, a, nodes)
		s, e := strip.New(r, a, nodes)
		if e != want || (s != nil) != (want == api.OK) || s.Nodes() != 0 {
			t.Errorf("New(%v, %v, %d): %v, %d, not %d", brief(r), a, nodes, s != nil, e, want)
		}
		met[want]++
	}
	for _, nodes := range []int{math.MinInt, -1 << 32, -1, 0, 1, 2, 65537, 1<<20 - 1, 1 << 20, 1<<20 + 1, 1<<32 + 1, math.MaxInt} {
		for _, r := range []api.Rule{conway(), births(api.Hex, 1, 0), births(4, 1<<3, 0)} {
			for _, a := range anyTopos() {
				look(r, a, nodes)
			}
		}
		all := append(append(wrongRules(), loudRules()...), rules()...)
		for _, r := range all {
			for _, a := range someTopos() {
				look(r, a, nodes)
			}
		}
	}
	for _, e := range []api.Errno{api.OK, api.ErrArg, api.ErrRule, api.ErrTopo, api.ErrUnbounded, api.ErrFinite, api.ErrLying, api.ErrLoud} {
		if met[e] == 0 {
			t.Errorf("%d is not met", e)
		}
	}
}

// TestNewTellsCheck: the error is window.Check's, whatever nodes is.
func TestNewTellsCheck(t *testing.T) {
	all := append(append(wrongRules(), loudRules()...), rules()...)
	for _, r := range all {
		for _, a := range append(someTopos(), strips(1)...) {
			want := window.Check(r, a)
			for _, nodes := range []int{0, 1, 1 << 20, 1<<20 + 1} {
				if _, e := strip.New(r, a, nodes); want != api.OK && e != want {
					t.Errorf("New(%v, %v, %d): %d, not %d", brief(r), a, nodes, e, want)
				}
			}
		}
	}
}

// TestNewHasToldOfNothing: of rules of each form, on a Plane and on a Torus, at the least and at the greatest number of nodes; the first row is number 0.
func TestNewHasToldOfNothing(t *testing.T) {
	d := dice(5)
	for _, w := range []int{1, 2, 3, 70} {
		for _, a := range strips(w) {
			for _, r := range rules() {
				for _, nodes := range []int{1, 2, 1<<20 - 1, 1 << 20} {
					b := newBoth(t, r, a, nodes)
					b.look()
					b.pair(0, 0)
					b.middle(0, 0)
					if id, e := b.row(d.cells(w, statesOf(r))); id != 0 || e != api.OK {
						t.Errorf("%v on %v: the first row has the number %d, %d", brief(r), a, id, e)
					}
					b.look()
				}
			}
		}
	}
}

// TestRulesWrittenOverBehindNew: the sea goes on with the rule that it was handed, and leaves it as it is.
func TestRulesWrittenOverBehindNew(t *testing.T) {
	d := dice(7)
	for _, r := range rules() {
		for _, a := range strips(4) {
			for _, write := range []func(api.Rule){overwrite, overwriteStates, overwriteAround} {
				handed := copied(r)
				b := newBoth(t, handed, a, 5000)
				b.sheet.rule = r
				id := b.node(d.rowsOf(a, 16, statesOf(r)))
				b.middle(id, 0)
				if !reflect.DeepEqual(handed, r) {
					t.Fatalf("%v: the rule was changed", brief(r))
				}
				write(handed)
				b.middle(id, 2)
				b.middle(b.node(d.rowsOf(a, 16, statesOf(r))), 1)
				b.run(d.band(4, -3, 5, statesOf(r)), 6)
				b.look()
			}
		}
	}
}

// overwrite writes over all lists of a rule; overwriteStates and overwriteAround the innermost alone.
func overwrite(r api.Rule) {
	overwriteStates(r)
	overwriteAround(r)
	for i := range r.Table.Vars {
		r.Table.Vars[i] = api.Var{Name: "z"}
	}
	for i := range r.Table.Rows {
		r.Table.Rows[i] = api.Trans{Centre: st(1), Out: st(0)}
	}
}

func overwriteStates(r api.Rule) {
	for _, v := range r.Table.Vars {
		clear(v.States)
	}
}

func overwriteAround(r api.Rule) {
	for _, row := range r.Table.Rows {
		for i := range row.Around {
			row.Around[i] = st(1)
		}
	}
}

// TestNone: a sea that is nil, and ones that New did not make; ErrNil counts ahead of all else.
func TestNone(t *testing.T) {
	numbers := []int{math.MinInt, -1, 0, 1, math.MaxInt}
	bands := []api.Band{{}, {W: 3}, {W: -1, At: math.MinInt}, band(1, 0, "1"), {W: 2, At: 1 << 50, Rows: drawn("1", "12")}}
	for name, s := range map[string]*strip.Sea{"nil": nil, "new": new(strip.Sea), "literal": {}} {
		for _, cells := range [][]uint8{nil, {}, {0}, {0, 0, 0, 0}, {255, 3}} {
			if id, e := s.Row(cells); id != 0 || e != api.ErrNil {
				t.Errorf("%s: Row(%v): %d, %d", name, cells, id, e)
			}
		}
		for _, a := range numbers {
			for _, b := range numbers {
				if id, e := s.Pair(a, b); id != 0 || e != api.ErrNil {
					t.Errorf("%s: Pair(%d, %d): %d, %d", name, a, b, id, e)
				}
				if id, e := s.Middle(a, b); id != 0 || e != api.ErrNil {
					t.Errorf("%s: Middle(%d, %d): %d, %d", name, a, b, id, e)
				}
			}
			if level, e := s.Level(a); level != 0 || e != api.ErrNil {
				t.Errorf("%s: Level(%d): %d, %d", name, a, level, e)
			}
			if rows, e := s.Rows(a); rows != nil || e != api.ErrNil {
				t.Errorf("%s: Rows(%d): %v, %d", name, a, rows, e)
			}
			for _, b := range bands {
				if got, e := s.Run(b, a); !isZero(got) || e != api.ErrNil {
					t.Errorf("%s: Run(%v, %d): %v, %d", name, b, a, got, e)
				}
			}
		}
		if n := s.Nodes(); n != 0 {
			t.Errorf("%s: Nodes: %d", name, n)
		}
	}
}
