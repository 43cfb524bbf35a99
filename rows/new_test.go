package rows_test

import (
	"math"
	"testing"

	"vivarium/api"
	"vivarium/rows"
	"vivarium/rule"
	"vivarium/topo"
	"vivarium/window"
)

// P20.1, and books that are none.

// wantNew is what the chapter asks of New, one behind the other; what window.Check asks is told anew.
func wantNew(r api.Rule, t api.Topo, most int) api.Errno {
	switch {
	case rule.Check(r) != api.OK:
		return api.ErrRule
	case topo.Check(t) != api.OK:
		return api.ErrTopo
	case t.W == 0 && t.H == 0:
		return api.ErrUnbounded
	case t.W != 0 && t.H != 0:
		return api.ErrFinite
	case t.W == 0:
		return api.ErrLying
	case !quiet(r):
		return api.ErrLoud
	case most < 1 || most > 65536:
		return api.ErrArg
	}
	return api.OK
}

// mosts are numbers of rows that may be and that may not.
func mosts() []int {
	return []int{math.MinInt, -1 << 32, -65536, -1, 0, 1, 2, 65535, 65536, 65537, 1 << 20, 1<<32 + 1, math.MaxInt}
}

// looksNew holds New against what the chapter asks.
func looksNew(test *testing.T, r api.Rule, t api.Topo, most int) api.Errno {
	test.Helper()
	want := wantNew(r, t, most)
	b, e := rows.New(r, t, most)
	if e != want || (b != nil) != (want == api.OK) {
		test.Errorf("New(%v, %v, %d): %v, %d, not %d", brief(r), t, most, b != nil, e, want)
	}
	if e == api.OK && b.Count() != 1 {
		test.Errorf("New(%v, %v, %d): %d rows", brief(r), t, most, b.Count())
	}
	return want
}

// TestNewOfAny: each error, and which counts where several would.
func TestNewOfAny(t *testing.T) {
	met := map[api.Errno]int{}
	for _, most := range mosts() {
		for _, r := range someRules() {
			for _, a := range anyTopos() {
				met[looksNew(t, r, a, most)]++
			}
		}
		rules := append(append(wrongRules(), loudRules()...), fewRules()...)
		for _, r := range rules {
			for _, a := range someTopos() {
				met[looksNew(t, r, a, most)]++
			}
		}
	}
	for _, e := range []api.Errno{api.OK, api.ErrArg, api.ErrRule, api.ErrTopo, api.ErrUnbounded, api.ErrFinite, api.ErrLying, api.ErrLoud} {
		if met[e] == 0 {
			t.Errorf("%d is not met", e)
		}
	}
}

// TestNewTellsCheck: the error is window.Check's, whatever most is.
func TestNewTellsCheck(t *testing.T) {
	rules := append(append(wrongRules(), loudRules()...), allRules()...)
	for _, r := range rules {
		for _, a := range append(someTopos(), strips(1)...) {
			want := window.Check(r, a)
			for _, most := range []int{0, 1, 65536, 65537} {
				if _, e := rows.New(r, a, most); want != api.OK && e != want {
					t.Errorf("New(%v, %v, %d): %d, not %d", brief(r), a, most, e, want)
				}
			}
		}
	}
}

// TestNewHasTheEmptyRow: of rules of each form, on a Plane and on a Torus, at the least and at the greatest number of rows.
func TestNewHasTheEmptyRow(t *testing.T) {
	for _, w := range []int{1, 2, 3, 70} {
		for _, a := range strips(w) {
			for _, r := range quietRules() {
				for _, most := range []int{1, 2, 3, 65535, 65536} {
					p := newPair(t, r, a, most)
					p.look()
					if id, e := p.row(make([]uint8, w)); id != 0 || e != api.OK {
						t.Errorf("%v on %v: the empty row has the number %d, %d", brief(r), a, id, e)
					}
					if id, e := p.next(0, 0, 0); id != 0 || e != api.OK {
						t.Errorf("%v on %v: of nothing comes %d, %d", brief(r), a, id, e)
					}
				}
			}
		}
	}
}

// TestNone: a book that is nil, and ones that New did not make; ErrNil counts ahead of all else.
func TestNone(t *testing.T) {
	far := []int{math.MinInt, -1, 0, 1, math.MaxInt}
	for name, b := range map[string]*rows.Book{"nil": nil, "new": new(rows.Book), "literal": {}} {
		for _, cells := range [][]uint8{nil, {}, {0}, {0, 0, 0, 0}, {255, 3}} {
			if id, e := b.Row(cells); id != 0 || e != api.ErrNil {
				t.Errorf("%s: Row(%v): %d, %d", name, cells, id, e)
			}
		}
		for _, above := range far {
			if cells, e := b.Cells(above); cells != nil || e != api.ErrNil {
				t.Errorf("%s: Cells(%d): %v, %d", name, above, cells, e)
			}
			for _, here := range far {
				for _, below := range far {
					if id, e := b.Next(above, here, below); id != 0 || e != api.ErrNil {
						t.Errorf("%s: Next(%d, %d, %d): %d, %d", name, above, here, below, id, e)
					}
				}
			}
		}
		if n := b.Count(); n != 0 {
			t.Errorf("%s: Count: %d", name, n)
		}
	}
}
