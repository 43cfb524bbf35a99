package step_test

import (
	"math"
	"testing"

	"vivarium/api"
	"vivarium/field"
	"vivarium/ring"
	"vivarium/rule"
	"vivarium/step"
	"vivarium/tree"
)

// P15.1

// inFrame is the place in a frame's list where (x, y) stands, by chapter 14.
func inFrame(f api.Frame, x, y int) int { return (y+1)*(f.W+2) + x + 1 }

// aroundIn are the states at a cell's neighbours' places of a frame.
func aroundIn(f api.Frame, near uint8, x, y int) []uint8 {
	var around []uint8
	for _, d := range offsets[near] {
		around = append(around, f.Cells[inFrame(f, x+d.X, y+d.Y)])
	}
	return around
}

func mustCell(t *testing.T, r api.Rule, f api.Frame, x, y int) uint8 {
	t.Helper()
	state, e := step.Cell(r, f, x, y)
	if e != api.OK {
		t.Fatalf("Cell(%v, %d times %d, %d, %d): %d", brief(r), f.W, f.H, x, y, e)
	}
	return state
}

// TestCellOfEachRule: frames of states drawn at random, the corners of the grid, its edges and within.
func TestCellOfEachRule(t *testing.T) {
	d := dice(17)
	for _, r := range allRules() {
		for _, s := range [][2]int{{1, 1}, {1, 3}, {3, 1}, {2, 2}, {3, 3}, {5, 4}} {
			f := d.frame(s[0], s[1], statesOf(r))
			for y := range f.H {
				for x := range f.W {
					centre, around := f.Cells[inFrame(f, x, y)], aroundIn(f, hoodOf(r), x, y)
					if got, want := mustCell(t, r, f, x, y), modelNext(r, centre, around); got != want {
						t.Errorf("Cell(%v, %v, %d, %d): %d, not %d", brief(r), f, x, y, got, want)
					}
				}
			}
		}
	}
}

// TestCellIsRulesNextOfRingsAround: as the chapter puts it, on frames of grids of each kind.
func TestCellIsRulesNextOfRingsAround(t *testing.T) {
	d := dice(19)
	for _, r := range fewRules() {
		for _, a := range append(grids(2), unlikeSides()...) {
			f := mustFrame(t, a, made(t, a.W, a.H, statesOf(r), false, d.cells(a.W*a.H, statesOf(r))))
			for y := range a.H {
				for x := range a.W {
					around, e := ring.Around(f, hoodOf(r), x, y)
					want, refused := rule.Next(r, f.Cells[inFrame(f, x, y)], around)
					if got := mustCell(t, r, f, x, y); e != api.OK || refused != api.OK || got != want {
						t.Errorf("Cell(%v, %v, %d, %d): %d, not %d (%d, %d)", brief(r), f, x, y, got, want, e, refused)
					}
				}
			}
		}
	}
}

// TestCellIsWhatTheRulesTreeSays: the tree is asked of the cell first, then of the neighbours.
func TestCellIsWhatTheRulesTreeSays(t *testing.T) {
	d := dice(23)
	for _, r := range []api.Rule{conway(), births(api.Neumann, 1<<1, 1<<2), births(api.Hex, 1|1<<2, 1<<3), fading(api.Neumann, 1<<1, 1<<2, 4), fading(api.Hex, 1<<2, 1<<1, 3),
		d.table(api.SymNone, api.Moore, 2, 6), d.table(api.SymRotate4, api.Neumann, 5, 6), d.table(api.SymRotate6R, api.Hex, 3, 6), d.function(api.Moore), d.function(api.Neumann), d.function(api.Hex)} {
		whole, e := rule.Tree(r)
		if e != api.OK {
			t.Fatalf("Tree(%v): %d", brief(r), e)
		}
		f := d.frame(8, 7, statesOf(r))
		for y := range f.H {
			for x := range f.W {
				in := append([]uint8{f.Cells[inFrame(f, x, y)]}, aroundIn(f, hoodOf(r), x, y)...)
				want, e := tree.At(whole, in)
				if got := mustCell(t, r, f, x, y); e != api.OK || got != want {
					t.Errorf("Cell(%v, %d, %d): %d; the tree: %d, %d", brief(r), x, y, got, want, e)
				}
			}
		}
	}
}

// TestCellTellsTheNeighboursApart: a table that makes a cell what one of its neighbours is, in a frame of states that are all unlike.
func TestCellTellsTheNeighboursApart(t *testing.T) {
	f := api.Frame{W: 3, H: 2}
	for i := range 20 {
		f.Cells = append(f.Cells, uint8(i+1))
	}
	for _, c := range []struct {
		near uint8
		x, y int
		want []uint8
	}{
		{api.Moore, 0, 0, []uint8{2, 3, 8, 13, 12, 11, 6, 1}},
		{api.Moore, 2, 1, []uint8{9, 10, 15, 20, 19, 18, 13, 8}},
		{api.Neumann, 0, 0, []uint8{2, 8, 12, 6}},
		{api.Neumann, 2, 1, []uint8{9, 15, 19, 13}},
		{api.Hex, 0, 0, []uint8{2, 8, 13, 12, 6, 1}},
		{api.Hex, 2, 1, []uint8{9, 15, 20, 19, 13, 8}},
	} {
		for i, want := range c.want {
			if got := mustCell(t, wind(c.near, i, 21), f, c.x, c.y); got != want {
				t.Errorf("the neighbour %d of (%d, %d), %d: %d, not %d", i, c.x, c.y, c.near, got, want)
			}
		}
	}
}

// TestCellOfGreatFrames: the corners and the middle of frames at the limits.
func TestCellOfGreatFrames(t *testing.T) {
	d := dice(29)
	for _, s := range [][2]int{{api.MaxSide, 16}, {16, api.MaxSide}, {api.MaxSide, 1}, {1, api.MaxSide}, {1024, 1024}} {
		f := d.frame(s[0], s[1], 3)
		for _, near := range hoods {
			r := fading(near, 1<<2, 1<<1|1<<3, 3)
			for _, x := range []int{0, f.W / 2, f.W - 1} {
				for _, y := range []int{0, f.H / 2, f.H - 1} {
					if got, want := mustCell(t, r, f, x, y), modelNext(r, f.Cells[inFrame(f, x, y)], aroundIn(f, near, x, y)); got != want {
						t.Errorf("Cell(%v, %v, %d, %d): %d, not %d", r, s, x, y, got, want)
					}
				}
			}
		}
	}
}

// refusesCell looks at an error, beside which the state is 0.
func refusesCell(t *testing.T, r api.Rule, f api.Frame, x, y int, want api.Errno) {
	t.Helper()
	if state, e := step.Cell(r, f, x, y); state != 0 || e != want {
		t.Errorf("Cell(%v, %d times %d with %d, %d, %d): %d, %d; not %d", brief(r), f.W, f.H, len(f.Cells), x, y, state, e, want)
	}
}

// beyond are numbers outside of 0 to n - 1, the next ones first.
func beyond(n int) []int {
	return []int{-1, n, n + 1, -2, -n - 1, 1 << 32, -1 << 32, math.MaxInt, math.MaxInt - 1, math.MinInt, math.MinInt + 1}
}

// wrongFrames may not be: sides, cells, and lists that are too short or too long.
func wrongFrames() []api.Frame {
	return []api.Frame{
		{},
		{W: 2, H: 2},
		{W: 2, H: 2, Cells: make([]uint8, 15)},
		{W: 2, H: 2, Cells: make([]uint8, 17)},
		{W: 2, H: 2, Cells: make([]uint8, 4)},
		{W: 0, H: 2, Cells: make([]uint8, 8)},
		{W: 2, H: 0, Cells: make([]uint8, 8)},
		{W: -3, H: -3, Cells: make([]uint8, 1)},
		{W: api.MaxSide + 1, H: 1, Cells: make([]uint8, 3*(api.MaxSide+3))},
		{W: 1025, H: 1024, Cells: make([]uint8, 1027*1026)},
		{W: math.MaxInt, H: math.MaxInt, Cells: make([]uint8, 1)},
		{W: math.MinInt, H: math.MinInt, Cells: make([]uint8, 4)},
	}
}

// TestCellOfNoRule: it counts ahead of the frame, of the place and of the states.
func TestCellOfNoRule(t *testing.T) {
	d := dice(31)
	good := d.frame(3, 2, 2)
	high := api.Frame{W: 3, H: 2, Cells: make([]uint8, 20)}
	for i := range high.Cells {
		high.Cells[i] = 255
	}
	for _, r := range wrongRules() {
		for _, f := range append(wrongFrames(), good, high) {
			for _, n := range []int{0, 1, 3, -1, math.MaxInt, math.MinInt} {
				refusesCell(t, r, f, n, 0, api.ErrRule)
				refusesCell(t, r, f, 0, n, api.ErrRule)
			}
		}
	}
}

// TestCellOfNoFrame: it counts ahead of the place.
func TestCellOfNoFrame(t *testing.T) {
	for _, r := range fewRules() {
		for _, f := range wrongFrames() {
			for _, n := range []int{0, 1, 9, -1, math.MaxInt, math.MinInt} {
				refusesCell(t, r, f, n, n, api.ErrFrame)
				refusesCell(t, r, f, n, 0, api.ErrFrame)
				refusesCell(t, r, f, 0, n, api.ErrFrame)
			}
		}
	}
}

// TestCellOfNoPlace: the ring's places are none of the grid's; it counts ahead of the states, which are all too high here.
func TestCellOfNoPlace(t *testing.T) {
	d := dice(37)
	for _, r := range fewRules() {
		for _, s := range [][2]int{{1, 1}, {2, 3}, {3, 2}, {4, 1}} {
			good := d.frame(s[0], s[1], statesOf(r))
			high := api.Frame{W: s[0], H: s[1], Cells: make([]uint8, len(good.Cells))}
			for i := range high.Cells {
				high.Cells[i] = 255
			}
			for _, f := range []api.Frame{good, high} {
				for _, x := range beyond(f.W) {
					for y := range f.H {
						refusesCell(t, r, f, x, y, api.ErrPlace)
					}
					for _, y := range beyond(f.H) {
						refusesCell(t, r, f, x, y, api.ErrPlace)
					}
				}
				for _, y := range beyond(f.H) {
					for x := range f.W {
						refusesCell(t, r, f, x, y, api.ErrPlace)
					}
				}
			}
		}
	}
}

// TestCellOfNoState: each place of a frame by turns has a state that the rule has not; it counts for the cell and for its neighbours, and for no other place.
func TestCellOfNoState(t *testing.T) {
	d := dice(41)
	for _, r := range allRules() {
		states := statesOf(r)
		for _, high := range []int{states, states + 1, 255} {
			if high < states || high > 255 {
				continue
			}
			f := d.frame(5, 5, states)
			for y := -1; y <= 5; y++ {
				for x := -1; x <= 5; x++ {
					was := f.Cells[inFrame(f, x, y)]
					f.Cells[inFrame(f, x, y)] = uint8(high)
					looksOnlyAtNeighbours(t, r, f, x, y)
					f.Cells[inFrame(f, x, y)] = was
				}
			}
		}
	}
}

// looksOnlyAtNeighbours holds what Cell says of all cells of a frame in which just the state at (x, y) is too high against what it must say.
func looksOnlyAtNeighbours(t *testing.T, r api.Rule, f api.Frame, x, y int) {
	t.Helper()
	for v := range f.H {
		for u := range f.W {
			looked := u == x && v == y
			for _, d := range offsets[hoodOf(r)] {
				looked = looked || u+d.X == x && v+d.Y == y
			}
			if looked {
				refusesCell(t, r, f, u, v, api.ErrState)
			} else {
				mustCell(t, r, f, u, v)
			}
		}
	}
}

// TestCellOfTheHighestState: the last state that the rule has is allowed, in the cell and about it; of 256 states none is refused.
func TestCellOfTheHighestState(t *testing.T) {
	for _, near := range hoods {
		for states := 2; states <= 256; states++ {
			r := fading(near, 1<<2, 1<<1, states)
			f := api.Frame{W: 1, H: 1, Cells: make([]uint8, 9)}
			for i := range f.Cells {
				f.Cells[i] = uint8(states - 1)
			}
			want := uint8(0)
			if states == 2 {
				want = uint8(r.Gens.Life.Stay >> len(offsets[near]) & 1)
			}
			if got := mustCell(t, r, f, 0, 0); got != want {
				t.Errorf("%d states, %d: %d, not %d", states, near, got, want)
			}
		}
	}
}

// TestCellOfEachCellIsNext: what Next answers is Cell of each place of the grid's frame.
func TestCellOfEachCellIsNext(t *testing.T) {
	d := dice(43)
	for _, r := range fewRules() {
		for _, a := range append(grids(3), unlikeSides()...) {
			f := made(t, a.W, a.H, statesOf(r), false, d.cells(a.W*a.H, statesOf(r)))
			g, frame := mustNext(t, r, a, f), mustFrame(t, a, f)
			for y := range a.H {
				for x := range a.W {
					if got, want := stateIn(t, g, x, y), mustCell(t, r, frame, x, y); got != want {
						t.Errorf("%v on %v: (%d, %d) is %d, not %d", brief(r), a, x, y, got, want)
					}
				}
			}
		}
	}
}

func stateIn(t *testing.T, f *field.Field, x, y int) uint8 {
	t.Helper()
	state, e := f.Get(x, y)
	if e != api.OK {
		t.Fatalf("Get(%d, %d): %d", x, y, e)
	}
	return state
}
