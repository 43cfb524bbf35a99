package tiles_test

import (
	"math"
	"runtime"
	"slices"
	"strings"
	"testing"
	"time"

	"vivarium/api"
	"vivarium/field"
	"vivarium/tiles"
)

// P18.2

// TestStepOfEveryRule: rules of each form on grids of each kind that have several tiles, some of them cut off.
func TestStepOfEveryRule(t *testing.T) {
	d := dice(23)
	for _, r := range allRules() {
		for _, a := range []api.Topo{{Kind: api.Plane, W: 18, H: 17}, {Kind: api.Torus, W: 17, H: 3, Turn: api.TurnHigh, Shift: -2}, {Kind: api.Klein, W: 5, H: 17, Turn: api.TurnWide, Shift: 3}, {Kind: api.Cross, W: 17, H: 2}, {Kind: api.Sphere, W: 17, H: 17}} {
			p := newPair(t, r, a, d.cells(a.W*a.H, statesOf(r)), statesOf(r) == 2, 1+d.below(16))
			p.step(1)
			p.step(2)
		}
	}
}

// TestStepOnEveryGrid: sides of all sorts, each kind, turned one way and the other, with a shift and without, fields of bytes and of bits.
func TestStepOnEveryGrid(t *testing.T) {
	d := dice(29)
	for _, s := range everySide {
		for _, a := range someOf(s[0], s[1]) {
			for _, r := range []api.Rule{conway(), fading(api.Hex, 1<<2, 1<<1|1<<3, 4), wind(api.Neumann, d.below(4), 3)} {
				for _, packed := range []bool{false, statesOf(r) == 2} {
					p := newPair(t, r, a, d.few(a.W*a.H, statesOf(r), 3), packed, 1+d.below(16))
					p.step(1)
					p.step(3)
				}
			}
		}
	}
}

// TestStepOnSmallGrids: all that may be of sides up to 3, on which cells are their own neighbours.
func TestStepOnSmallGrids(t *testing.T) {
	d := dice(31)
	for w := 1; w <= 3; w++ {
		for h := 1; h <= 3; h++ {
			for kind := api.Plane; kind <= api.Sphere; kind++ {
				for _, a := range turned(kind, w, h, -2, -1, 0, 1, 2) {
					for _, r := range fewRules() {
						p := newPair(t, r, a, d.cells(w*h, statesOf(r)), false, 1+d.below(3))
						for _, n := range []int{1, 0, 2, 5} {
							p.step(n)
						}
					}
				}
			}
		}
	}
}

// TestStepIsStepsRun: n 0, 1 and more, at once and one behind the other, for each number of workers.
func TestStepIsStepsRun(t *testing.T) {
	d := dice(37)
	for _, r := range fewRules() {
		for _, a := range slices.Concat(someOf(50, 35), someOf(33, 33), someOf(1, 70), someOf(70, 1)) {
			packed := statesOf(r) == 2 && d.below(2) == 0
			f := made(t, a.W, a.H, statesOf(r), packed, d.few(a.W*a.H, statesOf(r), 1+d.below(20)))
			workers, n := 1+d.below(16), d.below(12)
			once, several := mustNew(t, r, a, f, workers), mustNew(t, r, a, f, workers)
			mustStep(t, once, n)
			for gone := 0; gone < n; {
				more := d.below(n - gone + 1)
				mustStep(t, several, more)
				gone += more
			}
			want := mustRun(t, r, a, f, n)
			for _, b := range []*tiles.Board{once, several} {
				if g := fieldOf(t, b); !g.Same(want) || g.Packed() != packed || b.Gen() != n {
					t.Fatalf("%v on %v, %d generations by %d workers: generation %d, %v, not %v", brief(r), a, n, workers, b.Gen(), short(cellsOf(t, g)), short(cellsOf(t, want)))
				}
			}
			if once.Stirred() != several.Stirred() {
				t.Errorf("%v on %v, %d generations: %d tiles stirred at once, %d one behind the other", brief(r), a, n, once.Stirred(), several.Stirred())
			}
		}
	}
}

// TestStepByEachNumberOfWorkers: from 1 to 16 all is the same, of one tile, of fewer tiles than workers and of more.
func TestStepByEachNumberOfWorkers(t *testing.T) {
	d := dice(41)
	for _, r := range fewRules() {
		for _, a := range []api.Topo{{Kind: api.Torus, W: 7, H: 5}, {Kind: api.Klein, W: 47, H: 20, Turn: api.TurnHigh, Shift: -9}, {Kind: api.Sphere, W: 70, H: 70}} {
			cells := d.few(a.W*a.H, statesOf(r), 12)
			f := made(t, a.W, a.H, statesOf(r), false, cells)
			m := newModel(r, a, cells)
			var boards []*tiles.Board
			for workers := 1; workers <= 16; workers++ {
				boards = append(boards, mustNew(t, r, a, f, workers))
			}
			for range 3 {
				x, y, state, n := d.below(a.W), d.below(a.H), uint8(d.below(statesOf(r))), 1+d.below(3)
				m.set(x, y, state)
				m.step(n)
				for _, b := range boards {
					mustSet(t, b, x, y, state)
					mustStep(t, b, n)
					pair{t, b, m}.look()
				}
			}
		}
	}
}

// TestStepFarOn: many generations of small grids.
func TestStepFarOn(t *testing.T) {
	d := dice(43)
	for _, r := range fewRules() {
		for _, a := range someOf(18, 3) {
			p := newPair(t, r, a, d.cells(a.W*a.H, statesOf(r)), false, 2)
			p.step(60)
			p.step(1)
		}
	}
}

// TestStepTellsTheNeighboursApart: each cell becomes what its neighbour with a number is, over the edges of tiles and of the grid.
func TestStepTellsTheNeighboursApart(t *testing.T) {
	d := dice(47)
	for _, near := range hoods {
		for number := range offsets[near] {
			for _, a := range slices.Concat(someOf(34, 18), someOf(17, 17)) {
				p := newPair(t, wind(near, number, 5), a, d.cells(a.W*a.H, 5), false, 4)
				p.step(1)
			}
		}
	}
}

// TestStepWithNothing: with n 0 nothing changes, and the first generation is still to come.
func TestStepWithNothing(t *testing.T) {
	d := dice(53)
	for _, a := range someOf(33, 33) {
		p := newPair(t, still(api.Moore, 3), a, d.cells(33*33, 3), false, 3)
		p.step(0)
		p.step(0)
		p.step(1)
		if p.b.Stirred() != 9 {
			t.Errorf("%v: %d tiles stirred", a, p.b.Stirred())
		}
		p.step(0)
		if p.b.Stirred() != 9 {
			t.Errorf("%v: behind no generation %d tiles stirred", a, p.b.Stirred())
		}
		p.step(1)
		if p.b.Stirred() != 0 {
			t.Errorf("%v: of what is still %d tiles stirred", a, p.b.Stirred())
		}
	}
}

// stepError is the error that Step must answer of a board with so many cells, at a generation.
func stepError(n, gen, cells int) api.Errno {
	switch {
	case n < 0:
		return api.ErrArg
	case n > 1<<50 || gen+n > 1<<50:
		return api.ErrFar
	case n > 1<<26 || n*cells > 1<<26: // the second is small enough
		return api.ErrBudget
	}
	return api.OK
}

// numbers of generations: below 0, some, about the most work of several grids, about the farthest, and such as come round when they are multiplied.
func numbers(cells int) []int {
	most := 1 << 26 / cells
	return []int{math.MinInt, math.MinInt + 1, -1 << 50, -1 << 32, -1, 0, 1, 2, most + 1, most + 2, 1<<26 + 1, 1 << 27, 1 << 32, 1 << 44, 1 << 46, 1<<50 - 1, 1 << 50, 1<<50 + 1, 1 << 62, math.MaxInt - 1, math.MaxInt}
}

// TestStepRefuses: each error and which counts, of grids of all sizes; with an error nothing has changed, what is stirred in the next generation included.
func TestStepRefuses(t *testing.T) {
	met := map[api.Errno]int{}
	d := dice(59)
	for _, s := range [][2]int{{1, 1}, {1, 2}, {3, 3}, {7, 1}, {64, 64}, {65, 63}, {100, 90}} {
		a := api.Topo{Kind: api.Cross, W: s[0], H: s[1]}
		p := newPair(t, conway(), a, d.cells(a.W*a.H, 2), true, 4)
		for range 3 {
			p.set(d.below(a.W), d.below(a.H), 1)
			for _, n := range numbers(a.W * a.H) {
				want := stepError(n, p.m.gen, a.W*a.H)
				met[want]++
				if want == api.OK {
					p.step(n)
				} else if e := p.b.Step(n); e != want {
					t.Errorf("%v at the generation %d: Step(%d): %d, not %d", a, p.m.gen, n, e, want)
				}
				p.look()
			}
		}
	}
	for _, e := range []api.Errno{api.OK, api.ErrArg, api.ErrFar, api.ErrBudget} {
		if met[e] == 0 {
			t.Errorf("the error %d was not met", e)
		}
	}
}

// TestStepOfGreatBoardsRefuses: one generation more than the work that is allowed, of the greatest grids.
func TestStepOfGreatBoardsRefuses(t *testing.T) {
	for _, s := range [][2]int{{128, 128}, {1000, 1000}, {1024, 1024}, {65536, 1}, {1, 65536}, {65536, 16}, {16, 65536}, {61680, 17}, {1023, 1025}} {
		b := mustNew(t, conway(), api.Topo{Kind: api.Plane, W: s[0], H: s[1]}, blank(t, s[0], s[1]), 3)
		for _, n := range numbers(s[0] * s[1]) {
			if want := stepError(n, b.Gen(), s[0]*s[1]); want != api.OK {
				if e := b.Step(n); e != want || b.Gen() != 0 {
					t.Errorf("%v: Step(%d): %d, not %d; generation %d", s, n, e, want, b.Gen())
				}
			}
		}
		most := 1 << 26 / (s[0] * s[1])
		if e := b.Step(most); e != api.OK || b.Gen() != most {
			t.Errorf("%v: Step(%d): %d, generation %d", s, most, e, b.Gen())
		}
	}
}

// TestStepUpToTheFarthestGeneration: a board on which nothing changes comes there by steps of as many generations as are allowed.
func TestStepUpToTheFarthestGeneration(t *testing.T) {
	b := mustNew(t, conway(), api.Topo{Kind: api.Torus, W: 1, H: 1}, blank(t, 1, 1), 16)
	for range 1<<24 - 1 {
		if e := b.Step(1 << 26); e != api.OK {
			t.Fatal(e)
		}
	}
	far := 1<<50 - 1<<26
	if b.Gen() != far || b.Stirred() != 0 {
		t.Fatalf("generation %d, %d tiles stirred", b.Gen(), b.Stirred())
	}
	mustStep(t, b, 1<<26-5)
	mustSet(t, b, 0, 0, 1)
	for _, n := range []int{6, 7, 1 << 26, 1<<26 + 1, 1 << 50, 1<<50 + 1, math.MaxInt} { // ahead of ErrBudget
		if e := b.Step(n); e != api.ErrFar {
			t.Errorf("Step(%d): %d", n, e)
		}
	}
	if e := b.Step(-1); e != api.ErrArg {
		t.Errorf("Step(-1): %d", e)
	}
	if b.Gen() != 1<<50-5 || b.Stirred() != 0 || fieldOf(t, b).Pop() != 1 {
		t.Errorf("behind refusals: generation %d, %d tiles stirred", b.Gen(), b.Stirred())
	}
	mustStep(t, b, 1)
	if b.Stirred() != 1 || fieldOf(t, b).Pop() != 0 { // it has eight living neighbours
		t.Errorf("%d tiles stirred, %d cells live", b.Stirred(), fieldOf(t, b).Pop())
	}
	mustStep(t, b, 4)
	mustStep(t, b, 0)
	if e := b.Step(1); e != api.ErrFar || b.Gen() != 1<<50 {
		t.Errorf("one more: %d, generation %d", e, b.Gen())
	}
}

// glider is a field with a glider about a place, the field taken for a torus.
func glider(t *testing.T, w, h, x, y int) *field.Field {
	t.Helper()
	f := blank(t, w, h)
	for _, p := range []api.Point{at(0, -1), at(1, 0), at(-1, 1), at(0, 1), at(1, 1)} {
		if e := f.Set(mod(x+p.X, w), mod(y+p.Y, h), 1); e != api.OK {
			t.Fatal(e)
		}
	}
	return f
}

// TestStepJustMaxWork: as many generations as are allowed. In four generations a glider goes one step down and one to the right, over the edges of tiles and of the grid.
func TestStepJustMaxWork(t *testing.T) {
	for _, s := range []struct{ w, h, n int }{{1024, 1024, 64}, {1000, 1000, 67}, {61680, 17, 64}, {17, 61680, 64}, {65536, 16, 64}, {64, 64, 16384}, {100, 50, 13421}, {20, 20, 167772}} {
		a := api.Topo{Kind: api.Torus, W: s.w, H: s.h}
		b := mustNew(t, conway(), a, glider(t, s.w, s.h, s.w-10, s.h-5), 8)
		if e := b.Step(s.n + 1); e != api.ErrBudget || b.Gen() != 0 {
			t.Errorf("%v, %d generations: %d", s, s.n+1, e)
		}
		mustStep(t, b, s.n)
		want := mustRun(t, conway(), a, glider(t, s.w, s.h, s.w-10+s.n/4, s.h-5+s.n/4), s.n%4)
		if g := fieldOf(t, b); !g.Same(want) || g.Pop() != 5 || b.Gen() != s.n || b.Stirred() < 1 || b.Stirred() > 4 {
			t.Errorf("%v: generation %d, %d cells live, %d tiles stirred", s, b.Gen(), g.Pop(), b.Stirred())
		}
	}
}

// TestStepOfGreatBoards: as step.Run, where all tiles are stirred all the time.
func TestStepOfGreatBoards(t *testing.T) {
	d := dice(61)
	for _, a := range []api.Topo{{Kind: api.Klein, W: 65536, H: 16, Turn: api.TurnWide, Shift: -65535}, {Kind: api.Torus, W: 17, H: 61680, Turn: api.TurnHigh, Shift: 40000}, {Kind: api.Sphere, W: 1024, H: 1024}, {Kind: api.Cross, W: 1, H: 65536}} {
		f := made(t, a.W, a.H, 2, true, d.cells(a.W*a.H, 2))
		b := mustNew(t, conway(), a, f, 16)
		mustStep(t, b, 2)
		if g := fieldOf(t, b); !g.Same(mustRun(t, conway(), a, f, 2)) || !g.Packed() {
			t.Errorf("%v: another field", a)
		}
	}
}

// TestStepRemembersRightly: more arguments than are kept in mind, by one worker and by many, met again in later generations.
func TestStepRemembersRightly(t *testing.T) {
	d := dice(67)
	a := api.Topo{Kind: api.Cross, W: 1024, H: 1024}
	r := fading(api.Moore, 1<<2|1<<3, 1<<1, 7)
	f := made(t, a.W, a.H, 7, false, d.cells(1<<20, 7))
	want := mustRun(t, r, a, f, 3)
	for _, workers := range []int{1, 16} {
		b := mustNew(t, r, a, f, workers)
		mustStep(t, b, 3)
		if !fieldOf(t, b).Same(want) {
			t.Errorf("%d workers: another field", workers)
		}
	}
}

// TestStepOfUnlikeRules: what one board's rule said is not said of another's, though it has the same name, the same states or the same births.
func TestStepOfUnlikeRules(t *testing.T) {
	d := dice(71)
	a := api.Topo{Kind: api.Torus, W: 18, H: 3}
	cells := d.cells(a.W*a.H, 2)
	var pairs []pair
	for range 20 {
		for _, r := range []api.Rule{d.function(api.Neumann), births(api.Neumann, d.counts(api.Neumann), d.counts(api.Neumann)), d.table(api.SymNone, api.Moore, 2, 5)} {
			pairs = append(pairs, newPair(t, r, a, cells, false, 2))
		}
	}
	for range 3 {
		for _, p := range pairs {
			p.step(1)
		}
	}
}

// living is how many goroutines there are that run code of the package.
func living() int {
	all := make([]byte, 1<<20)
	all = all[:runtime.Stack(all, true)]
	count := 0
	for part := range strings.SplitSeq(string(all), "\n\n") {
		if strings.Contains(part, "vivarium/tiles.") {
			count++
		}
	}
	return count
}

// TestNoGoroutineLivesOn: behind Steps of all sorts none is left. One that has told that it ends may take a moment for it.
func TestNoGoroutineLivesOn(t *testing.T) {
	d := dice(73)
	before := runtime.NumGoroutine()
	for workers := 1; workers <= 16; workers++ {
		a := api.Topo{Kind: api.Torus, W: 70, H: 35}
		b := mustNew(t, conway(), a, made(t, a.W, a.H, 2, false, d.cells(a.W*a.H, 2)), workers)
		for _, n := range []int{1, 0, -1, 30, 1 << 26, 1 << 51, 1} {
			b.Step(n)
			b.Set(d.below(70), d.below(35), 1)
		}
	}
	for range 100 {
		if living() == 0 && runtime.NumGoroutine() <= before {
			return
		}
		time.Sleep(10 * time.Millisecond)
	}
	t.Errorf("%d goroutines of the package live on, %d in all; there were %d", living(), runtime.NumGoroutine(), before)
}
