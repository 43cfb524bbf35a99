package packed_test

import (
	"slices"
	"testing"

	"vivarium/api"
	"vivarium/field"
	"vivarium/life"
	"vivarium/packed"
	"vivarium/step"
	"vivarium/words"
)

// P16.4

// asRule is a rule of births and stays as step takes it.
func asRule(l api.Life) api.Rule {
	return api.Rule{Kind: api.KindLife, Gens: api.Gens{Life: l, States: 2}}
}

// TestRunIsStepsRun: each kind of grid, with a shift and without, turned one way and the other, at sides about the ends of words; 0, 1 and more generations, of fields that are packed and not; each grid by another rule of each neighbourhood.
func TestRunIsStepsRun(t *testing.T) {
	d := dice(41)
	sides := []int{1, 2, 3, 63, 64, 65}
	rules := [3][]api.Life{rulesOf(api.Moore), rulesOf(api.Neumann), rulesOf(api.Hex)}
	turn := 0
	for _, w := range sides {
		for _, h := range sides {
			for _, a := range someOf(w, h) {
				f := made(t, w, h, 2, turn%2 == 0, d.cells(w*h))
				for _, list := range rules {
					isStepsRun(t, list[turn%len(list)], a, f, turn%5)
					isStepsRun(t, d.rule(list[0].Hood), a, f, 1)
				}
				turn++
			}
		}
	}
}

// isStepsRun holds Run against step.Run, cell by cell.
func isStepsRun(test *testing.T, l api.Life, t api.Topo, f *field.Field, n int) {
	test.Helper()
	want, e := step.Run(asRule(l), t, f, n)
	if e != api.OK {
		test.Fatalf("step.Run(%v, %v, %d): %d", l, t, n, e)
	}
	if got := mustRun(test, l, t, f, n); !got.Same(want) {
		test.Errorf("%v on %v, %d generations: %v, not %v", l, t, n, short(cellsOf(test, got)), short(cellsOf(test, want)))
	}
}

// TestRunIsStepsRunOnSmallGrids: all grids of sides up to 3 and rules of each count.
func TestRunIsStepsRunOnSmallGrids(t *testing.T) {
	d := dice(43)
	for i, l := range allRules() {
		for _, a := range grids(3) {
			isStepsRun(t, l, a, made(t, a.W, a.H, 2, i%2 == 0, d.cells(a.W*a.H)), 1+i%3)
		}
	}
}

// TestRunIsStepsRunFarOn: many generations, until most worlds have come round.
func TestRunIsStepsRunFarOn(t *testing.T) {
	d := dice(47)
	for _, l := range fewRules() {
		for _, a := range slices.Concat(someOf(5, 4), someOf(16, 16)) {
			isStepsRun(t, l, a, made(t, a.W, a.H, 2, true, d.cells(a.W*a.H)), 100)
		}
	}
	isStepsRun(t, conway(), api.Topo{Kind: api.Cross, W: 200, H: 131}, made(t, 200, 131, 2, true, d.cells(200*131)), 50)
}

// TestRunAndThenRun: n and then m generations are n + m, whatever rule and grid.
func TestRunAndThenRun(t *testing.T) {
	d := dice(53)
	for _, l := range fewRules() {
		for _, a := range slices.Concat(grids(2), someOf(5, 3), someOf(3, 5), someOf(64, 2), someOf(65, 65)) {
			f := made(t, a.W, a.H, 2, false, d.cells(a.W*a.H))
			for _, c := range [][2]int{{0, 0}, {0, 2}, {2, 0}, {1, 1}, {1, 4}, {3, 2}} {
				one := mustRun(t, l, a, mustRun(t, l, a, f, c[0]), c[1])
				if both := mustRun(t, l, a, f, c[0]+c[1]); !both.Same(one) {
					t.Errorf("%v on %v: %v generations: %v, not %v", l, a, c, short(cellsOf(t, one)), short(cellsOf(t, both)))
				}
			}
		}
	}
}

// TestRunAndThenRunBeyondTheBudget: what is too much at once is not, one behind the other.
func TestRunAndThenRunBeyondTheBudget(t *testing.T) {
	a := api.Topo{Kind: api.Torus, W: 1024, H: 1024}
	f := glider(t, 1024, 1024, 0, 0)
	if g, e := packed.Run(conway(), a, f, 80); g != nil || e != api.ErrBudget {
		t.Errorf("80 generations at once: %d", e)
	}
	if g := mustRun(t, conway(), a, mustRun(t, conway(), a, f, 40), 40); !g.Same(glider(t, 1024, 1024, 20, 20)) {
		t.Error("40 and 40 generations: the glider is elsewhere")
	}
}

// not is a row turned bit by bit.
func not(t *testing.T, r api.Row) api.Row {
	t.Helper()
	n, e := words.Not(r)
	if e != api.OK {
		t.Fatal(e)
	}
	return n
}

// TestLineOfTurnedRows: by the turned rule, turned bit by bit, it is Line of the rows.
func TestLineOfTurnedRows(t *testing.T) {
	d := dice(59)
	for _, l := range allRules() {
		turned, e := life.Turned(l)
		if e != api.OK {
			t.Fatal(e)
		}
		for _, n := range lengths() {
			for ofFour := range 5 {
				above, here, below := rowOf(d.bits(n, ofFour)), rowOf(d.bits(n, 2)), rowOf(d.bits(n, ofFour))
				want := not(t, mustLine(t, l, above, here, below))
				got := mustLine(t, turned, not(t, above), not(t, here), not(t, below))
				if !slices.Equal(got.Words, want.Words) {
					t.Errorf("%v of %d bits: %x, not %x", l, n, short(got.Words), short(want.Words))
				}
			}
		}
	}
}

// TestRunIsLineByLine: on a Plane each row one generation later is Line of the three rows, with a dead place at both ends.
func TestRunIsLineByLine(t *testing.T) {
	d := dice(61)
	for _, l := range fewRules() {
		for _, s := range [][2]int{{1, 3}, {63, 4}, {64, 4}, {65, 4}, {130, 3}} {
			a := api.Topo{Kind: api.Plane, W: s[0], H: s[1]}
			cells := d.cells(s[0] * s[1])
			rows := []api.Row{blank(s[0] + 2)}
			for y := range s[1] {
				bits := make([]bool, s[0]+2)
				for x := range s[0] {
					bits[x+1] = cells[y*s[0]+x] == 1
				}
				rows = append(rows, rowOf(bits))
			}
			rows = append(rows, blank(s[0]+2))
			var want []uint8
			for y := range s[1] {
				for _, on := range bitsOf(mustLine(t, l, rows[y], rows[y+1], rows[y+2])) {
					state := uint8(0)
					if on {
						state = 1
					}
					want = append(want, state)
				}
			}
			hasCells(t, "line by line", l, a, mustRun(t, l, a, made(t, s[0], s[1], 2, true, cells), 1), want)
		}
	}
}
