package step_test

import (
	"slices"
	"testing"

	"vivarium/api"
	"vivarium/field"
	"vivarium/rule"
	"vivarium/topo"
)

// P15.4

// TestRunAndThenRun: n and then m generations are n + m, whatever rule and grid.
func TestRunAndThenRun(t *testing.T) {
	d := dice(83)
	for _, r := range fewRules() {
		for _, a := range slices.Concat(grids(2), someOf(5, 3), someOf(3, 5), someOf(4, 4)) {
			f := made(t, a.W, a.H, statesOf(r), false, d.cells(a.W*a.H, statesOf(r)))
			for _, c := range [][2]int{{0, 0}, {0, 2}, {2, 0}, {1, 1}, {1, 4}, {3, 2}} {
				one := mustRun(t, r, a, mustRun(t, r, a, f, c[0]), c[1])
				if both := mustRun(t, r, a, f, c[0]+c[1]); !both.Same(one) {
					t.Errorf("%v on %v: %v generations: %v, not %v", brief(r), a, c, cellsOf(t, one), cellsOf(t, both))
				}
			}
		}
	}
}

// TestRunOfNothing: a quiet rule leaves an empty field as it is, on each grid, packed or not; one that is not quiet does not.
func TestRunOfNothing(t *testing.T) {
	quietOnes, loudOnes := 0, 0
	for _, r := range allRules() {
		for _, a := range slices.Concat(grids(2), someOf(4, 3), someOf(65, 2)) {
			f := made(t, a.W, a.H, statesOf(r), statesOf(r) == 2, make([]uint8, a.W*a.H))
			if g := mustRun(t, r, a, f, 1); g.Same(f) != quiet(r) {
				t.Errorf("%v on %v: a quiet rule: %v; empty behind it: %v", brief(r), a, quiet(r), g.Same(f))
			}
			if quiet(r) {
				quietOnes++
				if mustRun(t, r, a, f, 5).Pop() != 0 {
					t.Errorf("%v on %v: something lives", brief(r), a)
				}
			} else {
				loudOnes++
			}
		}
	}
	if quietOnes == 0 || loudOnes == 0 {
		t.Errorf("%d quiet ones, %d others", quietOnes, loudOnes)
	}
}

// moved are the cells of a torus without a turn, moved along it.
func moved(a api.Topo, cells []uint8, by api.Point) []uint8 {
	out := make([]uint8, len(cells))
	for i, state := range cells {
		out[mod(i/a.W+by.Y, a.H)*a.W+mod(i%a.W+by.X, a.W)] = state
	}
	return out
}

// TestRunOfWhatIsMoved: by all numbers that a torus has, and by some that are more or below 0.
func TestRunOfWhatIsMoved(t *testing.T) {
	d := dice(89)
	for _, r := range fewRules() {
		for _, s := range [][2]int{{1, 1}, {1, 3}, {3, 1}, {2, 2}, {3, 4}, {5, 3}} {
			a := api.Topo{Kind: api.Torus, W: s[0], H: s[1]}
			cells := d.cells(a.W*a.H, statesOf(r))
			still := cellsOf(t, mustRun(t, r, a, made(t, a.W, a.H, statesOf(r), false, cells), 2))
			for x := -2; x <= a.W; x++ {
				for y := -2; y <= a.H; y++ {
					f := made(t, a.W, a.H, statesOf(r), false, moved(a, cells, at(x, y)))
					hasCells(t, "moved", r, a, mustRun(t, r, a, f, 2), moved(a, still, at(x, y)))
				}
			}
		}
	}
}

// exchanged is a field with x and y exchanged.
func exchanged(t *testing.T, f *field.Field) *field.Field {
	t.Helper()
	g, e := field.New(f.H(), f.W(), f.States(), f.Packed())
	if e != api.OK {
		t.Fatal(e)
	}
	for p, state := range f.Cells() {
		if e := g.Set(p.Y, p.X, state); e != api.OK {
			t.Fatal(e)
		}
	}
	return g
}

// TestRunOfWhatIsExchanged: the exchanged rule on the exchanged grid, of each kind, turned one way and the other, with each shift.
func TestRunOfWhatIsExchanged(t *testing.T) {
	d := dice(97)
	met := 0
	for _, r := range allRules() {
		across, e := rule.Across(r)
		if e == api.ErrMany || len(across.Table.Rows) > 1000 {
			continue // there is none, or it is slow to ask; most others have one
		}
		if e != api.OK {
			t.Fatalf("Across(%v): %d", brief(r), e)
		}
		met++
		for _, a := range slices.Concat(grids(2), turned(api.Torus, 3, 2, -2, 2), turned(api.Klein, 3, 2, -2, 2), someOf(4, 5)) {
			over, e := topo.Across(a)
			if e != api.OK {
				t.Fatalf("Across(%v): %d", a, e)
			}
			f := made(t, a.W, a.H, statesOf(r), statesOf(r) == 2, d.cells(a.W*a.H, statesOf(r)))
			got, want := exchanged(t, mustRun(t, across, over, exchanged(t, f), 2)), mustRun(t, r, a, f, 2)
			if !got.Same(want) {
				t.Errorf("%v on %v: %v, not %v", brief(r), a, cellsOf(t, got), cellsOf(t, want))
			}
		}
	}
	if met < 50 {
		t.Errorf("of %d rules alone there is an exchanged one", met)
	}
}

// far is how many steps of all eight kinds lie between a place and the nearest living cell.
func far(f *field.Field, x, y int) int {
	least := 1 << 30
	for p := range f.Cells() {
		least = min(least, max(p.X-x, x-p.X, p.Y-y, y-p.Y))
	}
	return least
}

// TestRunComesNoFartherThanOneStep: on a Plane nothing of a quiet rule lives farther off behind n generations than n steps.
func TestRunComesNoFartherThanOneStep(t *testing.T) {
	d := dice(101)
	a := api.Topo{Kind: api.Plane, W: 17, H: 15}
	for _, r := range allRules() {
		if !quiet(r) || len(r.Table.Rows) > 100 {
			continue
		}
		f := made(t, a.W, a.H, statesOf(r), false, make([]uint8, a.W*a.H))
		for range 1 + d.below(5) {
			f.Set(5+d.below(6), 5+d.below(5), uint8(1+d.below(statesOf(r)-1)))
		}
		for n := range 6 {
			for p := range mustRun(t, r, a, f, n).Cells() {
				if steps := far(f, p.X, p.Y); steps > n {
					t.Errorf("%v: behind %d generations (%d, %d) lives, %d steps off", brief(r), n, p.X, p.Y, steps)
				}
			}
		}
	}
}

// TestRunComesJustOneStep: what is born beside anything that lives, and stays, comes a step farther each generation, as far as the neighbourhood goes, up to the edges and not over them.
func TestRunComesJustOneStep(t *testing.T) {
	a := api.Topo{Kind: api.Plane, W: 11, H: 9}
	steps := map[uint8]func(x, y int) int{
		api.Moore:   func(x, y int) int { return max(x, -x, y, -y) },
		api.Neumann: func(x, y int) int { return max(x, -x) + max(y, -y) },
		api.Hex:     func(x, y int) int { return max(x, -x, y, -y, x-y, y-x) },
	}
	for near, away := range steps {
		all := uint16(1<<(len(offsets[near])+1) - 1)
		r := births(near, all&^1, all)
		for _, from := range []api.Point{at(5, 4), at(0, 0), at(10, 8), at(0, 8), at(3, 7)} {
			f := made(t, a.W, a.H, 2, true, make([]uint8, a.W*a.H))
			f.Set(from.X, from.Y, 1)
			for n := range 22 {
				want := make([]uint8, a.W*a.H)
				for i := range want {
					if away(i%a.W-from.X, i/a.W-from.Y) <= n {
						want[i] = 1
					}
				}
				hasCells(t, "one step", r, a, mustRun(t, r, a, f, n), want)
			}
		}
	}
}
