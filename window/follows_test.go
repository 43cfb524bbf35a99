package window_test

import (
	"slices"
	"testing"

	"vivarium/api"
	"vivarium/field"
	"vivarium/step"
)

// P19.6.

// TestRunAndThenRun: n generations and then m are n and m together; also 0 of them, and where the band dies between.
func TestRunAndThenRun(t *testing.T) {
	d := dice(29)
	for _, r := range quietRules() {
		for _, a := range strips(1 + d.below(9)) {
			b := d.band(a.W, d.below(9)-4, d.below(6), statesOf(r))
			for _, c := range [][2]int{{0, 0}, {0, 3}, {3, 0}, {1, 1}, {1, 4}, {5, 2}} {
				both := mustRun(t, r, a, b, c[0]+c[1])
				hasBand(t, "one behind the other", r, a, mustRun(t, r, a, mustRun(t, r, a, b, c[0]), c[1]), both)
			}
		}
	}
}

// TestRunIsNextAgainAndAgain: in wide strips too, with many generations.
func TestRunIsNextAgainAndAgain(t *testing.T) {
	d := dice(31)
	for _, r := range fewRules() {
		for _, a := range slices.Concat(strips(1), strips(2), strips(30), strips(200)) {
			b := d.band(a.W, 6, 10, statesOf(r))
			by := b
			for n := range 25 {
				if n%8 == 0 {
					hasBand(t, "again and again", r, a, mustRun(t, r, a, b, n), mustTrim(t, r, a, by))
				}
				by = mustRun(t, r, a, by, 1)
			}
		}
	}
}

// TestRunOfWhatIsMoved: by little, and to both ends of what is near.
func TestRunOfWhatIsMoved(t *testing.T) {
	d := dice(37)
	for _, r := range quietRules() {
		for _, a := range strips(1 + d.below(6)) {
			b := d.band(a.W, 0, 1+d.below(5), statesOf(r))
			for _, n := range []int{0, 1, 3} {
				still := mustRun(t, r, a, b, n)
				for _, by := range []int{-api.MaxFar + n, -1000001, -1, 0, 1, 77, 1 << 32, api.MaxFar - len(b.Rows) + 1 - n} {
					want := still
					if len(still.Rows) > 0 {
						want.At += by
					}
					moved := b
					moved.At += by
					hasBand(t, "moved", r, a, mustRun(t, r, a, moved, n), want)
				}
			}
		}
	}
}

// TestTrimmedOrNot: what a band comes to does not hang on empty rows at its ends.
func TestTrimmedOrNot(t *testing.T) {
	d := dice(41)
	for _, r := range fewRules() {
		for _, a := range slices.Concat(strips(3), strips(8)) {
			b := d.band(a.W, -1, 3, statesOf(r))
			for above := range 4 {
				for below := range 4 {
					wide := api.Band{W: a.W, At: b.At - above}
					for range above {
						wide.Rows = append(wide.Rows, make([]uint8, a.W))
					}
					wide.Rows = append(wide.Rows, b.Rows...)
					for range below {
						wide.Rows = append(wide.Rows, make([]uint8, a.W))
					}
					hasBand(t, "trimmed", r, a, mustTrim(t, r, a, wide), mustTrim(t, r, a, b))
					for n := range 4 {
						hasBand(t, "run", r, a, mustRun(t, r, a, wide, n), mustRun(t, r, a, b, n))
					}
				}
			}
		}
	}
}

// TestTrimOfWhatIsTrimmed: Trim of what Trim and Run answer is the same.
func TestTrimOfWhatIsTrimmed(t *testing.T) {
	d := dice(43)
	for _, r := range quietRules() {
		for _, a := range strips(1 + d.below(6)) {
			b := d.band(a.W, -1, 6, statesOf(r))
			for _, got := range []api.Band{mustTrim(t, r, a, b), mustRun(t, r, a, b, 0), mustRun(t, r, a, b, 2)} {
				hasBand(t, "trimmed", r, a, mustTrim(t, r, a, got), got)
			}
			hasBand(t, "no generations", r, a, mustRun(t, r, a, b, 0), mustTrim(t, r, a, b))
		}
	}
}

// onGrid is a band n generations later on a grid of the same kind and width and so many rows, by step.
func onGrid(test *testing.T, r api.Rule, t api.Topo, b api.Band, high, n int) api.Band {
	test.Helper()
	t.H = high
	f, e := field.New(t.W, t.H, statesOf(r), false)
	if e != api.OK {
		test.Fatal(e)
	}
	top := -(high / 2) // the Y of the grid's first row
	for i, row := range b.Rows {
		if e := f.Lay(b.At+i-top, row); e != api.OK {
			test.Fatal(e)
		}
	}
	g, e := step.Run(r, t, f, n)
	if e != api.OK {
		test.Fatal(e)
	}
	c := living{}
	for p, state := range g.Cells() {
		c[at(p.X, p.Y+top)] = state
	}
	return c.band(t.W)
}

// highEnough is the least height that the chapter asks for.
func highEnough(b api.Band, n int) int {
	far := 0
	for i := range b.Rows {
		far = max(far, b.At+i, -(b.At + i))
	}
	return 2 * (far + n + 2)
}

// TestRunBesideGrids: of the least height that is enough, of one and of some more.
func TestRunBesideGrids(t *testing.T) {
	d := dice(47)
	for _, r := range quietRules() {
		for _, w := range []int{1, 2, 3, 6} {
			for _, a := range strips(w) {
				b := d.band(w, d.below(9)-6, 1+d.below(4), statesOf(r))
				for _, n := range []int{0, 1, 4} {
					got := mustRun(t, r, a, b, n)
					for _, more := range []int{0, 1, 5} {
						hasBand(t, "a grid", r, a, got, onGrid(t, r, a, b, highEnough(b, n)+more, n))
					}
				}
			}
		}
	}
}

// TestRunBesideGreatGrids: wide strips, and high bands, with more generations.
func TestRunBesideGreatGrids(t *testing.T) {
	d := dice(53)
	for _, r := range []api.Rule{conway(), fading(api.Hex, 1<<2, 1<<3, 5), hushed(d.table(api.SymNone, api.Neumann, 3, 6))} {
		for _, c := range []struct{ w, y, rows, n int }{{1 << 15, -4, 8, 4}, {300, -40, 80, 20}, {2, -2000, 4000, 30}} {
			for _, a := range strips(c.w) {
				b := d.band(c.w, c.y, c.rows, statesOf(r))
				hasBand(t, "a great grid", r, a, mustRun(t, r, a, b, c.n), onGrid(t, r, a, b, highEnough(b, c.n), c.n))
			}
		}
	}
}

// TestNextIsLineByLine: each row that is answered, and each one beside them that is not, is Line of three rows.
func TestNextIsLineByLine(t *testing.T) {
	d := dice(59)
	for _, r := range quietRules() {
		for _, w := range []int{1, 2, 3, 7} {
			for _, a := range strips(w) {
				b := d.band(w, d.below(9)-4, 1+d.below(5), statesOf(r))
				empty := make([]uint8, w)
				rowAt := func(of api.Band, y int) []uint8 {
					if y < of.At || y >= of.At+len(of.Rows) {
						return empty
					}
					return of.Rows[y-of.At]
				}
				next := mustRun(t, r, a, b, 1)
				for y := b.At - 3; y <= b.At+len(b.Rows)+2; y++ {
					line := mustLine(t, r, a, rowAt(b, y-1), rowAt(b, y), rowAt(b, y+1))
					if !slices.Equal(line, rowAt(next, y)) {
						t.Errorf("%v on %v: the row %d of %v: %v, not %v", brief(r), a, y, b, rowAt(next, y), line)
					}
				}
			}
		}
	}
}

// TestLineOfEmptyRows: of three empty rows an empty one comes.
func TestLineOfEmptyRows(t *testing.T) {
	for _, r := range quietRules() {
		for _, a := range slices.Concat(strips(1), strips(2), strips(9)) {
			empty := make([]uint8, a.W)
			if got := mustLine(t, r, a, empty, empty, empty); !slices.Equal(got, empty) {
				t.Errorf("%v on %v: %v", brief(r), a, got)
			}
		}
	}
}
