package step_test

import (
	"testing"

	"vivarium/api"
	"vivarium/field"
	"vivarium/step"
)

// P15.3

func mustNext(test *testing.T, r api.Rule, t api.Topo, f *field.Field) *field.Field {
	test.Helper()
	g, e := step.Next(r, t, f)
	if g == nil || g == f || e != api.OK {
		test.Fatalf("Next(%v, %v): %d", brief(r), t, e)
	}
	return g
}

// TestNextOfEachRuleOnSmallGrids: each kind of grid, with each shift and without, turned one way and the other, at sides of 1, 2 and 3, where a cell is its own neighbour, and a neighbour several times.
func TestNextOfEachRuleOnSmallGrids(t *testing.T) {
	d := dice(47)
	all := grids(3)
	for _, r := range allRules() {
		for _, a := range all {
			cells := d.cells(a.W*a.H, statesOf(r))
			g := mustNext(t, r, a, made(t, a.W, a.H, statesOf(r), false, cells))
			hasCells(t, "the model", r, a, g, modelRun(r, a, cells, 1))
		}
	}
}

// TestNextOfEachRuleOnUnlikeSides: longer sides, with few shifts.
func TestNextOfEachRuleOnUnlikeSides(t *testing.T) {
	d := dice(53)
	all := unlikeSides()
	for _, r := range allRules() {
		for _, a := range all {
			cells := d.cells(a.W*a.H, statesOf(r))
			g := mustNext(t, r, a, made(t, a.W, a.H, statesOf(r), false, cells))
			hasCells(t, "the model", r, a, g, modelRun(r, a, cells, 1))
		}
	}
}

// TestNextOfEachPatternOnTheSmallestGrids: all fields of two states of at most six cells.
func TestNextOfEachPatternOnTheSmallestGrids(t *testing.T) {
	rules := []api.Rule{conway(), births(api.Neumann, 1<<1|1<<3, 1<<2|1<<4), births(api.Hex, 1|1<<2, 1<<3|1<<6), births(api.Moore, 1|1<<8, 1<<1|1<<5)}
	for _, a := range grids(3) {
		if a.W*a.H > 6 {
			continue
		}
		for pattern := range 1 << (a.W * a.H) {
			cells := make([]uint8, a.W*a.H)
			for i := range cells {
				cells[i] = uint8(pattern >> i & 1)
			}
			for _, r := range rules {
				g := mustNext(t, r, a, made(t, a.W, a.H, 2, pattern%2 == 0, cells))
				hasCells(t, "the model", r, a, g, modelRun(r, a, cells, 1))
			}
		}
	}
}

// TestNextOfACellThatIsItsOwnNeighbour counts the page's examples of small grids: of one living cell, how often it is a neighbour of which.
func TestNextOfACellThatIsItsOwnNeighbour(t *testing.T) {
	for _, c := range []struct {
		t     api.Topo
		times []int // of each cell: how often the first one is its neighbour
	}{
		{api.Topo{Kind: api.Torus, W: 1, H: 1}, []int{8}},
		{api.Topo{Kind: api.Torus, W: 1, H: 3}, []int{2, 3, 3}},
		{api.Topo{Kind: api.Torus, W: 3, H: 1}, []int{2, 3, 3}},
		{api.Topo{Kind: api.Torus, W: 2, H: 2}, []int{0, 2, 2, 4}},
		{api.Topo{Kind: api.Plane, W: 1, H: 1}, []int{0}},
		{api.Topo{Kind: api.Plane, W: 2, H: 2}, []int{0, 1, 1, 1}},
		{api.Topo{Kind: api.Sphere, W: 1, H: 1}, []int{8}},
		{api.Topo{Kind: api.Sphere, W: 2, H: 2}, []int{3, 2, 2, 1}},
		{api.Topo{Kind: api.Cross, W: 1, H: 1}, []int{8}},
		{api.Topo{Kind: api.Cross, W: 2, H: 2}, []int{1, 2, 2, 3}},
		{api.Topo{Kind: api.Klein, W: 1, H: 1, Turn: api.TurnWide}, []int{8}},
	} {
		for times := range 9 {
			cells, want := make([]uint8, len(c.times)), make([]uint8, len(c.times))
			cells[0] = 1
			for i, n := range c.times {
				if n == times {
					want[i] = 1
				}
			}
			r := births(api.Moore, 1<<times, 1<<times)
			hasCells(t, "counted", r, c.t, mustNext(t, r, c.t, made(t, c.t.W, c.t.H, 2, false, cells)), want)
		}
	}
}

// TestNextIsRunOfOne: answers and errors, whatever is handed in.
func TestNextIsRunOfOne(t *testing.T) {
	eachRefusal(t, func(r api.Rule, a api.Topo, f *field.Field, _ int) {
		g, e := step.Next(r, a, f)
		want := modelError(r, a, f, 1)
		if e != want || e != api.OK && g != nil {
			t.Errorf("Next(%v, %v): %d, not %d", brief(r), a, e, want)
		}
		if one, refused := step.Run(r, a, f, 1); refused != e || e == api.OK && (!g.Same(one) || g.Packed() != one.Packed()) {
			t.Errorf("Next(%v, %v): %d; Run of 1: %d", brief(r), a, e, refused)
		}
	})
}
