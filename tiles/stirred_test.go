package tiles_test

import (
	"slices"
	"testing"

	"vivarium/api"
)

// P18.4's Stirred, against the chapter's Words.

// stirringGrids are grids of each kind whose tiles lie beside one another over the edges, turned one way and the other, with shifts that bring a tile beside others.
func stirringGrids() []api.Topo {
	var all []api.Topo
	for _, s := range [][2]int{{48, 48}, {34, 18}, {17, 33}, {33, 33}, {16, 16}, {1, 40}, {40, 1}, {3, 2}} {
		for kind := api.Plane; kind <= api.Sphere; kind++ {
			all = append(all, turned(kind, s[0], s[1], 0, 1, -1, 16, -17, s[0]-1, 1-s[1])...)
		}
	}
	return all
}

// TestStirredByEachCell: of cells by which nothing else changes, one by one, all eight places counting whatever neighbourhood the rule has. Each cell that lies at an edge of a tile or of the grid, and some that don't.
func TestStirredByEachCell(t *testing.T) {
	d := dice(127)
	for i, a := range stirringGrids() {
		p := newPair(t, still(hoods[i%3], 2), a, d.cells(a.W*a.H, 2), true, 1+d.below(16))
		p.step(1)
		p.step(1)
		if p.b.Stirred() != 0 {
			t.Fatalf("%v: %d tiles stirred", a, p.b.Stirred())
		}
		for i, state := range p.m.cells {
			x, y := i%a.W, i/a.W
			inside := x%16 > 0 && x%16 < 15 && y%16 > 0 && y%16 < 15 && x < a.W-1 && y < a.H-1
			if inside && d.below(20) > 0 {
				continue
			}
			p.set(x, y, 1-state)
			want := p.m.countStirred()
			clear(p.m.fresh) // the model's own step would ask the rule of each cell: here it says the same of all
			mustStep(t, p.b, 1)
			if p.b.Stirred() != want {
				t.Fatalf("%v: (%d, %d) stirred %d tiles, not %d", a, x, y, p.b.Stirred(), want)
			}
		}
		if !slices.Equal(cellsOf(t, fieldOf(t, p.b)), p.m.cells) {
			t.Fatalf("%v: other cells", a)
		}
	}
}

// TestStirredByChanges: what a generation changes stirs in the next one, as the cells are counted, on each kind of grid.
func TestStirredByChanges(t *testing.T) {
	d := dice(131)
	met := map[int]int{}
	for _, a := range stirringGrids() {
		for _, r := range []api.Rule{conway(), fading(api.Hex, 1<<2, 1<<1|1<<3, 4), births(api.Neumann, 1<<1, 1<<1|1<<2), wind(api.Moore, d.below(8), 2)} {
			p := newPair(t, r, a, d.few(a.W*a.H, statesOf(r), 200), false, 1+d.below(16))
			for range 5 {
				p.step(1)
				met[p.b.Stirred()]++
			}
		}
	}
	for stirred := range 10 {
		if met[stirred] == 0 {
			t.Errorf("%d tiles were never stirred", stirred)
		}
	}
}

// TestStirredOverTheEdges: worked out by hand. One cell at an edge or a corner of a grid of 48 times 48 (three tiles each way) or of 40 times 48.
func TestStirredOverTheEdges(t *testing.T) {
	torus, plane := api.Topo{Kind: api.Torus, W: 48, H: 48}, api.Topo{Kind: api.Plane, W: 48, H: 48}
	klein := api.Topo{Kind: api.Klein, W: 40, H: 48, Turn: api.TurnWide}
	moved := api.Topo{Kind: api.Torus, W: 48, H: 48, Turn: api.TurnWide, Shift: 8}
	cross, sphere := api.Topo{Kind: api.Cross, W: 48, H: 48}, api.Topo{Kind: api.Sphere, W: 48, H: 48}
	for _, c := range []struct {
		a    api.Topo
		at   api.Point
		want int
	}{
		{torus, at(24, 24), 1}, {torus, at(16, 24), 2}, {torus, at(31, 24), 2}, {torus, at(16, 31), 4}, {torus, at(15, 15), 4},
		{torus, at(24, 0), 2}, {torus, at(0, 24), 2}, {torus, at(0, 0), 4}, {torus, at(47, 0), 4}, {torus, at(16, 0), 4},
		{plane, at(24, 0), 1}, {plane, at(0, 0), 1}, {plane, at(47, 47), 1}, {plane, at(16, 0), 2}, {plane, at(16, 16), 4},
		{klein, at(24, 0), 3}, // over the top edge lie 14 to 16 of the last row
		{klein, at(4, 0), 2},  // over the top edge lie 34 to 36: the last tile, of 8 columns
		{klein, at(0, 0), 4},  // over the top edge lie 38, 39 and 0
		{moved, at(7, 0), 3},  // over the top edge lie 14, 15 and 16
		{moved, at(4, 0), 2},  // over the top edge lie 11, 12 and 13
		{cross, at(0, 0), 2},  // over the top edge lie (46, 47) and (47, 47), over the left edge (47, 46) and (47, 47), over both itself
		{cross, at(47, 0), 2}, // likewise, with the opposite corner (0, 47)
		{cross, at(4, 0), 2},
		{sphere, at(4, 0), 1}, // the top edge meets the left one: rows 3 to 5 of the first column, in the same tile
		{sphere, at(24, 0), 2},
		{sphere, at(0, 0), 1},
		{sphere, at(47, 47), 1},
		{sphere, at(47, 0), 2}, // the right edge meets the bottom one, over the top edge lies the left one: (0, 46) and (0, 47), both in one tile
	} {
		b := mustNew(t, still(api.Neumann, 2), c.a, blank(t, c.a.W, c.a.H), 3)
		mustStep(t, b, 1)
		mustSet(t, b, c.at.X, c.at.Y, 1)
		mustStep(t, b, 1)
		if b.Stirred() != c.want {
			t.Errorf("%v: (%d, %d) stirred %d tiles, not %d", c.a, c.at.X, c.at.Y, b.Stirred(), c.want)
		}
	}
}

// TestStirredInTheFirstGeneration: all tiles, whatever lives, whatever was set, and of several generations at once in the first alone.
func TestStirredInTheFirstGeneration(t *testing.T) {
	for _, s := range everySide {
		for _, a := range someOf(s[0], s[1]) {
			p := newPair(t, conway(), a, make([]uint8, a.W*a.H), true, 4)
			p.look()
			p.set(0, 0, 1)
			p.set(0, 0, 0)
			p.step(0)
			p.step(1)
			if p.b.Stirred() != p.b.Tiles() {
				t.Errorf("%v: %d of %d tiles stirred", a, p.b.Stirred(), p.b.Tiles())
			}
			q := newPair(t, conway(), a, make([]uint8, a.W*a.H), true, 4)
			q.step(2)
			if q.b.Stirred() != 0 {
				t.Errorf("%v: %d tiles stirred in the second generation", a, q.b.Stirred())
			}
		}
	}
}

// TestStirredBehindAGenerationWithoutChange: none, at once and one by one, however many generations.
func TestStirredBehindAGenerationWithoutChange(t *testing.T) {
	for _, a := range someOf(33, 20) {
		p := newPair(t, conway(), a, make([]uint8, a.W*a.H), false, 2)
		for _, c := range []api.Point{at(4, 4), at(5, 4), at(4, 5), at(5, 5)} { // a block stays as it is
			p.set(c.X, c.Y, 1)
		}
		p.step(1)
		for _, n := range []int{1, 1, 0, 5, 1000} {
			p.step(n)
			if p.b.Stirred() != 0 {
				t.Errorf("%v: %d tiles stirred", a, p.b.Stirred())
			}
		}
		p.set(20, 10, 1) // it dies
		p.step(1)
		if p.b.Stirred() == 0 {
			t.Errorf("%v: what was set did not stir", a)
		}
		p.step(1) // it has changed
		p.step(1)
		if p.b.Stirred() != 0 {
			t.Errorf("%v: %d tiles stirred behind it", a, p.b.Stirred())
		}
	}
}

// TestStirredOfSeveralGenerations: it is the last one's.
func TestStirredOfSeveralGenerations(t *testing.T) {
	d := dice(137)
	for _, a := range slices.Concat(someOf(50, 40), someOf(36, 36)) {
		p := newPair(t, conway(), a, d.few(a.W*a.H, 2, 60), false, 7)
		for _, n := range []int{3, 2, 7, 0, 4} {
			p.step(n)
		}
	}
}

// TestStirredBehindSets: Sets do not change what the last generation was; between two Steps they add to what the generation changed.
func TestStirredBehindSets(t *testing.T) {
	d := dice(139)
	for _, a := range stirringGrids() {
		p := newPair(t, births(api.Moore, 1<<3, 1<<2|1<<3), a, d.few(a.W*a.H, 2, 100), false, 3)
		for range 4 {
			p.step(1)
			was := p.b.Stirred()
			for range d.below(4) {
				p.set(d.below(a.W), d.below(a.H), uint8(d.below(2)))
				if p.b.Stirred() != was {
					t.Fatalf("%v: behind a Set %d tiles stirred, not %d", a, p.b.Stirred(), was)
				}
			}
		}
	}
}

// TestStirredByWhatAGenerationChangedAndASetGaveBack: a cell that has changed is fresh, though it is again what it was.
func TestStirredByWhatAGenerationChangedAndASetGaveBack(t *testing.T) {
	a := api.Topo{Kind: api.Torus, W: 48, H: 48}
	p := newPair(t, conway(), a, make([]uint8, 48*48), false, 3)
	p.step(1)
	p.set(15, 24, 1) // it dies in the next generation
	p.step(1)
	p.set(15, 24, 1) // given back
	p.set(15, 24, 0) // and taken again
	p.step(1)
	if p.b.Stirred() != 2 {
		t.Errorf("%d tiles stirred", p.b.Stirred())
	}
	p.step(1)
	if p.b.Stirred() != 0 {
		t.Errorf("%d tiles stirred behind it", p.b.Stirred())
	}
}
