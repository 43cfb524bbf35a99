package window_test

import (
	"math"
	"testing"

	"vivarium/api"
	"vivarium/rule"
	"vivarium/topo"
	"vivarium/window"
)

// P19.1.

// wantCheck is what the chapter asks of Check, one behind the other.
func wantCheck(r api.Rule, t api.Topo) api.Errno {
	if rule.Check(r) != api.OK {
		return api.ErrRule
	}
	if topo.Check(t) != api.OK {
		return api.ErrTopo
	}
	if t.W == 0 && t.H == 0 {
		return api.ErrUnbounded
	}
	if t.W != 0 && t.H != 0 {
		return api.ErrFinite
	}
	if t.W == 0 {
		return api.ErrLying
	}
	if !quiet(r) {
		return api.ErrLoud
	}
	return api.OK
}

// loudRules wake empty space, one of each kind and neighbourhood.
func loudRules() []api.Rule {
	var all []api.Rule
	for _, near := range []uint8{api.Moore, api.Neumann, api.Hex} {
		woken := api.Table{States: 3, Hood: near, Symmetry: api.SymPermute}
		row := api.Trans{Centre: st(0), Out: st(2)}
		for range offsets[near] {
			row.Around = append(row.Around, st(0))
		}
		woken.Rows = []api.Trans{row}
		all = append(all, births(near, 1, 0), births(near, 1|1<<3, 1<<2), fading(near, 1, 1<<1, 7), tabled(woken))
	}
	return all
}

// anyTopos are topologies of each kind and of none, with sides that may be and that may not, turned and not.
func anyTopos() []api.Topo {
	var all []api.Topo
	for kind := range uint8(7) {
		for _, w := range []int{math.MinInt, -1, 0, 1, 4, 1 << 16, 1<<16 + 1, math.MaxInt} {
			for _, h := range []int{math.MinInt, -1, 0, 1, 4, 1 << 16, 1<<16 + 1, math.MaxInt} {
				for turn := range uint8(4) {
					for _, shift := range []int{-1, 0, 1} {
						all = append(all, api.Topo{Kind: kind, W: w, H: h, Turn: turn, Shift: shift})
					}
				}
			}
		}
	}
	return all
}

// TestCheckOfAnyTwo: each error, and which counts where several would.
func TestCheckOfAnyTwo(t *testing.T) {
	met := map[api.Errno]int{}
	rules := append(append(wrongRules(), loudRules()...), fewRules()...)
	for _, r := range rules {
		for _, a := range anyTopos() {
			want := wantCheck(r, a)
			met[want]++
			if e := window.Check(r, a); e != want {
				t.Errorf("Check(%v, %v): %d, not %d", brief(r), a, e, want)
			}
		}
	}
	for _, e := range []api.Errno{api.OK, api.ErrRule, api.ErrTopo, api.ErrUnbounded, api.ErrFinite, api.ErrLying, api.ErrLoud} {
		if met[e] == 0 {
			t.Errorf("%d is not met", e)
		}
	}
}

// TestCheckTakesQuietRules: of each kind, neighbourhood and symmetry, on a Plane and on a Torus; none that is loud.
func TestCheckTakesQuietRules(t *testing.T) {
	for _, w := range []int{1, 2, 3, 4, 1 << 16} {
		for _, a := range strips(w) {
			for _, r := range quietRules() {
				if e := window.Check(r, a); e != api.OK {
					t.Errorf("Check(%v, %v): %d", brief(r), a, e)
				}
			}
			for _, r := range loudRules() {
				if e := window.Check(r, a); e != api.ErrLoud {
					t.Errorf("Check(%v, %v): %d", brief(r), a, e)
				}
			}
			for _, r := range allRules() {
				if e, want := window.Check(r, a), wantCheck(r, a); e != want {
					t.Errorf("Check(%v, %v): %d, not %d", brief(r), a, e, want)
				}
			}
		}
	}
}

// TestCheckTakesNoOtherKinds: a Klein, a Cross and a Sphere have no side without an end, and a Torus that has one no Turn.
func TestCheckTakesNoOtherKinds(t *testing.T) {
	for _, c := range []struct {
		t    api.Topo
		want api.Errno
	}{
		{api.Topo{Kind: api.Klein, W: 4, Turn: api.TurnWide}, api.ErrTopo},
		{api.Topo{Kind: api.Klein, W: 4, H: 4, Turn: api.TurnWide}, api.ErrFinite},
		{api.Topo{Kind: api.Cross, W: 4}, api.ErrTopo},
		{api.Topo{Kind: api.Cross, W: 4, H: 4}, api.ErrFinite},
		{api.Topo{Kind: api.Sphere, W: 4}, api.ErrTopo},
		{api.Topo{Kind: api.Sphere, W: 4, H: 4}, api.ErrFinite},
		{api.Topo{Kind: api.Torus, W: 4, Turn: api.TurnWide, Shift: 1}, api.ErrTopo},
		{api.Topo{Kind: api.Torus, H: 4, Turn: api.TurnHigh, Shift: 1}, api.ErrTopo},
		{api.Topo{Kind: api.Torus, W: 4, H: 4, Turn: api.TurnWide, Shift: 1}, api.ErrFinite},
		{api.Topo{Kind: api.Torus}, api.ErrUnbounded},
		{api.Topo{Kind: api.Plane, H: 1}, api.ErrLying},
	} {
		for _, r := range append(fewRules(), loudRules()...) {
			if e := window.Check(r, c.t); e != c.want {
				t.Errorf("Check(%v, %v): %d, not %d", brief(r), c.t, e, c.want)
			}
		}
	}
}
