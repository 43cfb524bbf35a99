package step_test

import (
	"math"
	"slices"
	"testing"

	"vivarium/api"
	"vivarium/field"
	"vivarium/rule"
	"vivarium/step"
	"vivarium/topo"
)

// P15.2

// TestRunOfSeveralGenerations: 0, 1 and more, of fields that are packed and not.
func TestRunOfSeveralGenerations(t *testing.T) {
	d := dice(59)
	for _, r := range fewRules() {
		for _, a := range append(grids(2), unlikeSides()...) {
			cells := d.cells(a.W*a.H, statesOf(r))
			for _, packed := range []bool{false, statesOf(r) == 2} {
				f := made(t, a.W, a.H, statesOf(r), packed, cells)
				for _, n := range []int{0, 1, 2, 3, 7} {
					hasCells(t, "the model", r, a, mustRun(t, r, a, f, n), modelRun(r, a, cells, n))
				}
			}
		}
	}
}

// TestRunFarOn: many generations of a small grid.
func TestRunFarOn(t *testing.T) {
	d := dice(61)
	for _, r := range fewRules() {
		for _, a := range someOf(5, 4) {
			cells := d.cells(20, statesOf(r))
			hasCells(t, "the model", r, a, mustRun(t, r, a, made(t, 5, 4, statesOf(r), false, cells), 60), modelRun(r, a, cells, 60))
		}
	}
}

// TestRunWhateverIsPacked: columns about the ends of words; a field that was packed and unpacked in between.
func TestRunWhateverIsPacked(t *testing.T) {
	d := dice(67)
	for _, s := range [][2]int{{1, 1}, {63, 3}, {64, 2}, {65, 3}, {2, 64}, {130, 2}} {
		for _, a := range someOf(s[0], s[1]) {
			cells := d.cells(s[0]*s[1], 2)
			f := made(t, s[0], s[1], 2, false, cells)
			want := modelRun(conway(), a, cells, 2)
			for _, on := range []bool{false, true, true, false} {
				if e := f.Pack(on); e != api.OK {
					t.Fatal(e)
				}
				hasCells(t, "packed or not", conway(), a, mustRun(t, conway(), a, f, 2), want)
			}
		}
	}
}

// TestRunBesideAPlane: what lies outside stays 0, though the rule wakes empty space.
func TestRunBesideAPlane(t *testing.T) {
	plane := api.Topo{Kind: api.Plane, W: 3, H: 3}
	r := births(api.Moore, 1, 1<<8) // B0/S8
	f := drawn(t, false, "...", "...", "...")
	for n, want := range [][]string{{"...", "...", "..."}, {"ooo", "ooo", "ooo"}, {"...", ".o.", "..."}, {"...", "...", "..."}, {"ooo", "ooo", "ooo"}} {
		if g := mustRun(t, r, plane, f, n); !g.Same(drawn(t, false, want...)) {
			t.Errorf("%d generations: %v, not %v", n, cellsOf(t, g), want)
		}
	}
}

// TestRunOfFading: a table and a rule of generations, their states worked out by hand.
func TestRunOfFading(t *testing.T) {
	torus := api.Topo{Kind: api.Torus, W: 4, H: 1}
	brain := fading(api.Neumann, 1<<1, 0, 3) // a 1 becomes 2, a 2 becomes 0; born beside one 1
	f := made(t, 4, 1, 3, false, []uint8{1, 0, 0, 0})
	// North and south of each cell is the cell itself: a living one counts twice for itself.
	for n, want := range [][]uint8{{1, 0, 0, 0}, {2, 1, 0, 1}, {0, 2, 0, 2}, {0, 0, 0, 0}} {
		hasCells(t, "by hand", brain, torus, mustRun(t, brain, torus, f, n), want)
	}
	east := wind(api.Neumann, 1, 4) // each becomes what its eastern neighbour is
	line := made(t, 4, 1, 4, false, []uint8{0, 1, 2, 3})
	for n, want := range [][]uint8{{0, 1, 2, 3}, {1, 2, 3, 0}, {2, 3, 0, 1}, {3, 0, 1, 2}, {0, 1, 2, 3}} {
		hasCells(t, "by hand", east, torus, mustRun(t, east, torus, line, n), want)
	}
}

// TestRunRemembersRightly: more arguments than are kept in mind, met again in a second generation.
func TestRunRemembersRightly(t *testing.T) {
	d := dice(71)
	a := api.Topo{Kind: api.Cross, W: 1024, H: 1024}
	r := fading(api.Moore, 1<<2|1<<3, 1<<1, 7)
	cells := d.cells(1<<20, 7)
	hasCells(t, "the model", r, a, mustRun(t, r, a, made(t, 1024, 1024, 7, false, cells), 3), modelRun(r, a, cells, 3))
}

// TestRunOfUnlikeRules: what one rule said is not said of another, though it has the same name, the same states or the same births.
func TestRunOfUnlikeRules(t *testing.T) {
	d := dice(73)
	a := api.Topo{Kind: api.Torus, W: 5, H: 3}
	var rules []api.Rule
	for range 30 {
		rules = append(rules, d.function(api.Neumann), births(api.Neumann, d.counts(api.Neumann), d.counts(api.Neumann)), d.table(api.SymNone, api.Moore, 2, 5))
	}
	cells := d.cells(15, 2)
	f := made(t, 5, 3, 2, false, cells)
	for range 2 {
		for _, r := range rules {
			hasCells(t, "one behind the other", r, a, mustRun(t, r, a, f, 2), modelRun(r, a, cells, 2))
		}
	}
}

// modelError is the error that Run must answer, by the chapter's order.
func modelError(r api.Rule, t api.Topo, f *field.Field, n int) api.Errno {
	cells := t.W * t.H
	switch {
	case f.W() == 0:
		return api.ErrNil
	case rule.Check(r) != api.OK:
		return api.ErrRule
	case topo.Check(t) != api.OK:
		return api.ErrTopo
	case n < 0:
		return api.ErrArg
	case n > 1<<50:
		return api.ErrFar
	case cells == 0:
		return api.ErrEndless
	case t.W != f.W() || t.H != f.H():
		return api.ErrUnlike
	case f.States() != statesOf(r):
		return api.ErrState
	case n > 1<<26 || n*cells > 1<<26: // the second is small enough
		return api.ErrBudget
	}
	return api.OK
}

// wrongTopos may not be; some have an endless side too, some the fields' sides.
func wrongTopos() []api.Topo {
	return []api.Topo{
		{},
		{W: 3, H: 2},
		{Kind: 6, W: 3, H: 2},
		{Kind: 255},
		{Kind: api.Plane, W: -1, H: 2},
		{Kind: api.Plane, W: 3, H: -2},
		{Kind: api.Plane, W: -1},
		{Kind: api.Plane, W: api.MaxSide + 1, H: 2},
		{Kind: api.Torus, W: math.MinInt, H: math.MaxInt},
		{Kind: api.Sphere, W: 3, H: 2},
		{Kind: api.Sphere},
		{Kind: api.Klein, W: 3, H: 2},
		{Kind: api.Klein, W: 3, Turn: api.TurnWide},
		{Kind: api.Cross, H: 2},
		{Kind: api.Cross, W: 3, H: 2, Turn: api.TurnHigh},
		{Kind: api.Plane, W: 3, H: 2, Turn: api.TurnWide},
		{Kind: api.Torus, W: 3, H: 2, Turn: 3, Shift: 1},
		{Kind: api.Torus, W: 3, H: 2, Shift: 1},
		{Kind: api.Torus, W: 3, H: 2, Turn: api.TurnWide, Shift: 3},
		{Kind: api.Torus, W: 3, Turn: api.TurnWide, Shift: 1},
		{Kind: api.Klein, W: 3, H: 2, Turn: api.TurnHigh, Shift: 2},
	}
}

// fineTopos may be: endless ones, ones with other sides than 3 and 2, and ones with these.
func fineTopos() []api.Topo {
	all := []api.Topo{{Kind: api.Plane}, {Kind: api.Torus}, {Kind: api.Plane, W: 3}, {Kind: api.Plane, H: 2}, {Kind: api.Torus, W: 3}, {Kind: api.Torus, H: 2}, {Kind: api.Plane, W: 65536},
		{Kind: api.Plane, W: 2, H: 3}, {Kind: api.Plane, W: 3, H: 3}, {Kind: api.Torus, W: 6, H: 1}, {Kind: api.Klein, W: 4, H: 2, Turn: api.TurnWide}, {Kind: api.Sphere, W: 2, H: 2}, {Kind: api.Cross, W: 65536, H: 65536}}
	return append(all, someOf(3, 2)...)
}

// numbers of generations: below 0, some, about what six cells may have, about what one may have, about the farthest, and such as come round when they are multiplied. None that is allowed is great.
func numbersOfGenerations() []int {
	return []int{math.MinInt, -1 << 32, -1, 0, 1, 3, 1<<26/6 + 1, 1 << 26, 1<<26 + 1, 1 << 32, 1 << 50, 1<<50 + 1, 1 << 62, math.MaxInt}
}

// eachRefusal goes through fields, rules, topologies and numbers of generations, those that may be and those that may not, each beside each. Fields that there are have 3 columns and 2 rows.
func eachRefusal(t *testing.T, look func(api.Rule, api.Topo, *field.Field, int)) {
	t.Helper()
	fields := []*field.Field{nil, {}, made(t, 3, 2, 2, false, []uint8{1, 0, 1, 0, 1, 1}), made(t, 3, 2, 2, true, []uint8{1, 0, 1, 0, 1, 1}), made(t, 3, 2, 4, false, []uint8{1, 0, 2, 0, 3, 1}), made(t, 3, 2, 256, false, make([]uint8, 6))}
	rules := append(wrongRules(), conway(), fading(api.Moore, 1<<2, 1<<3, 2), fading(api.Moore, 1<<2, 1<<3, 4), wind(api.Neumann, 1, 2), wind(api.Hex, 1, 3), tabled(api.Table{States: 256, Hood: api.Moore}))
	for _, f := range fields {
		for _, r := range rules {
			for _, a := range append(wrongTopos(), fineTopos()...) {
				for _, n := range numbersOfGenerations() {
					look(r, a, f, n)
				}
			}
		}
	}
}

// TestRunRefuses: each error, and which counts where several would.
func TestRunRefuses(t *testing.T) {
	met := map[api.Errno]int{}
	eachRefusal(t, func(r api.Rule, a api.Topo, f *field.Field, n int) {
		want := modelError(r, a, f, n)
		met[want]++
		g, e := step.Run(r, a, f, n)
		if e != want || (g == nil) != (e != api.OK) {
			t.Errorf("Run(%v, %v, %d): %d, not %d", brief(r), a, n, e, want)
		}
	})
	for _, e := range []api.Errno{api.OK, api.ErrNil, api.ErrRule, api.ErrTopo, api.ErrArg, api.ErrFar, api.ErrEndless, api.ErrUnlike, api.ErrState, api.ErrBudget} {
		if met[e] == 0 {
			t.Errorf("the error %d was not met", e)
		}
	}
}

// TestRunLeavesARefusedFieldAsItIs: its cells, its states and its packing.
func TestRunLeavesARefusedFieldAsItIs(t *testing.T) {
	for _, packed := range []bool{false, true} {
		cells := []uint8{1, 0, 1, 0, 1, 1}
		f := made(t, 3, 2, 2, packed, cells)
		for _, a := range append(wrongTopos(), fineTopos()...) {
			for _, n := range []int{-1, 1 << 26, 1 << 50, math.MaxInt} {
				step.Run(conway(), a, f, n)
				step.Run(api.Rule{}, a, f, n)
				step.Run(fading(api.Moore, 0, 0, 3), a, f, n)
			}
		}
		if !slices.Equal(cellsOf(t, f), cells) || f.Packed() != packed || f.States() != 2 {
			t.Errorf("packed %v: %v, %v, %d", packed, cellsOf(t, f), f.Packed(), f.States())
		}
	}
}

// TestRunOneMoreThanMaxWork: grids of all sizes, one generation too many, and numbers whose product comes round to what is allowed.
func TestRunOneMoreThanMaxWork(t *testing.T) {
	for _, s := range [][2]int{{1, 1}, {1, 2}, {3, 3}, {7, 1}, {64, 64}, {65, 63}, {128, 128}, {1000, 1000}, {1024, 1024}, {65536, 1}, {1, 65536}, {65536, 16}, {16, 65536}, {61680, 17}, {1023, 1025}} {
		a := api.Topo{Kind: api.Plane, W: s[0], H: s[1]}
		f := made(t, s[0], s[1], 2, true, make([]uint8, s[0]*s[1]))
		cells := s[0] * s[1]
		for _, n := range []int{1<<26/cells + 1, 1<<26/cells + 2, 1 << 27, 1 << 44, 1 << 46, 1 << 48, 1<<50 - 1, 1 << 50} {
			if g, e := step.Run(conway(), a, f, n); g != nil || e != api.ErrBudget {
				t.Errorf("%v, %d generations: %d", s, n, e)
			}
		}
		if g, e := step.Run(conway(), a, f, 1<<50+1); g != nil || e != api.ErrFar {
			t.Errorf("%v, too many generations: %d", s, e)
		}
		if !mustRun(t, conway(), a, f, 0).Same(f) {
			t.Errorf("%v: no generation is another field", s)
		}
	}
}

// TestRunJustMaxWork: as many generations as are allowed, of the greatest grid and of one whose cells do not go into MaxWork. In four generations a glider goes one step down and one to the right, here over the edges.
func TestRunJustMaxWork(t *testing.T) {
	for _, s := range []struct{ w, h, n int }{{1024, 1024, 64}, {1000, 1000, 67}} {
		a := api.Topo{Kind: api.Torus, W: s.w, H: s.h}
		f := glider(t, s.w, s.h, s.w-10, s.h-5)
		want := mustRun(t, conway(), a, glider(t, s.w, s.h, s.w-10+s.n/4, s.h-5+s.n/4), s.n%4)
		if g := mustRun(t, conway(), a, f, s.n); !g.Same(want) || g.Pop() != 5 {
			t.Errorf("%d times %d, %d generations: %d cells live", s.w, s.h, s.n, g.Pop())
		}
		if g, e := step.Run(conway(), a, f, s.n+1); g != nil || e != api.ErrBudget {
			t.Errorf("%d times %d, %d generations: %d", s.w, s.h, s.n+1, e)
		}
	}
}

// TestRunJustMaxWorkOfSmallGrids: many generations of few cells; each cell becomes what its western neighbour is, so that all goes round and round.
func TestRunJustMaxWorkOfSmallGrids(t *testing.T) {
	const side, n = 64, 1 << 26 / (64 * 64)
	a := api.Topo{Kind: api.Torus, W: side, H: side, Turn: api.TurnHigh, Shift: 1} // a row behind its end is the row above
	west := wind(api.Neumann, 3, 2)
	d := dice(79)
	cells, want := d.cells(side*side, 2), make([]uint8, side*side)
	for i, state := range cells {
		x, y := i%side+n, i/side
		want[mod(y-x/side, side)*side+x%side] = state
	}
	f := made(t, side, side, 2, false, cells)
	hasCells(t, "just MaxWork", west, a, mustRun(t, west, a, f, n), want)
	if g, e := step.Run(west, a, f, n+1); g != nil || e != api.ErrBudget {
		t.Errorf("one more: %d", e)
	}
}

// glider is a field with a glider about a place, the field taken for a torus.
func glider(t *testing.T, w, h, x, y int) *field.Field {
	t.Helper()
	f := made(t, w, h, 2, false, make([]uint8, w*h))
	for _, p := range []api.Point{{X: 0, Y: -1}, {X: 1, Y: 0}, {X: -1, Y: 1}, {X: 0, Y: 1}, {X: 1, Y: 1}} {
		if e := f.Set(mod(x+p.X, w), mod(y+p.Y, h), 1); e != api.OK {
			t.Fatal(e)
		}
	}
	return f
}
