package tiles_test

import (
	"slices"
	"testing"

	"vivarium/api"
	"vivarium/tiles"
)

// P18.3

// TestSetOfEachCell: the cell has the state, and no other cell has another.
func TestSetOfEachCell(t *testing.T) {
	d := dice(79)
	for _, s := range [][2]int{{1, 1}, {1, 5}, {5, 1}, {17, 18}, {33, 2}} {
		for _, a := range someOf(s[0], s[1]) {
			for _, states := range []int{2, 3, 256} {
				p := newPair(t, still(api.Moore, states), a, d.cells(a.W*a.H, states), states == 2, 2)
				for y := range a.H {
					for x := range a.W {
						p.set(x, y, uint8(d.below(states)))
						if d.below(10) == 0 {
							p.look()
						}
					}
				}
				p.look()
				p.step(1)
			}
		}
	}
}

// corners are those of a grid.
func corners(a api.Topo) []api.Point {
	return []api.Point{at(0, 0), at(a.W-1, 0), at(0, a.H-1), at(a.W-1, a.H-1)}
}

// TestSetAtTheCorners: what is set there is seen over the edges in the next generation.
func TestSetAtTheCorners(t *testing.T) {
	d := dice(83)
	for _, s := range everySide {
		for _, a := range someOf(s[0], s[1]) {
			for _, r := range []api.Rule{births(api.Moore, 1<<1|1<<2, 1<<3), fading(api.Hex, 1<<1, 1<<2, 4), wind(api.Moore, d.below(8), 3)} {
				for _, c := range corners(a) {
					p := newPair(t, r, a, make([]uint8, a.W*a.H), false, 3)
					p.step(2)
					p.set(c.X, c.Y, 1)
					p.step(1)
					p.step(1)
				}
			}
		}
	}
}

// TestSetOfTheStateThatIsThere: nothing is fresh by it.
func TestSetOfTheStateThatIsThere(t *testing.T) {
	d := dice(89)
	for _, a := range someOf(34, 18) {
		cells := d.cells(a.W*a.H, 3)
		p := newPair(t, still(api.Hex, 3), a, cells, false, 5)
		p.step(1)
		for i, state := range cells {
			p.set(i%a.W, i/a.W, state)
		}
		p.step(1)
		if p.b.Stirred() != 0 {
			t.Errorf("%v: %d tiles stirred", a, p.b.Stirred())
		}
	}
}

// TestSetThatIsGivenBack: a later Set gives back the earlier state; the cells are as they were, but what was set is fresh.
func TestSetThatIsGivenBack(t *testing.T) {
	d := dice(97)
	for _, a := range someOf(34, 18) {
		p := newPair(t, still(api.Moore, 4), a, d.cells(a.W*a.H, 4), false, 5)
		p.step(1)
		for range 10 {
			x, y := d.below(a.W), d.below(a.H)
			was := p.m.cells[y*a.W+x]
			p.set(x, y, (was+1)%4)
			p.set(x, y, was)
			p.step(1)
			if p.b.Stirred() == 0 {
				t.Errorf("%v: (%d, %d) stirred nothing", a, x, y)
			}
			p.step(1)
			if p.b.Stirred() != 0 {
				t.Errorf("%v: (%d, %d) stirred twice", a, x, y)
			}
		}
	}
}

// TestSetOfEachState: all that a rule has, and none more.
func TestSetOfEachState(t *testing.T) {
	for states := 2; states <= 256; states++ {
		p := newPair(t, still(api.Moore, states), api.Topo{Kind: api.Torus, W: 3, H: 2}, make([]uint8, 6), false, 1)
		for state := range 256 {
			if state < states {
				p.set(state%3, state%2, uint8(state))
			} else if e := p.b.Set(state%3, state%2, uint8(state)); e != api.ErrState {
				t.Errorf("%d of %d states: %d", state, states, e)
			}
			p.look()
		}
	}
}

// TestSetOfNoPlace: it counts ahead of the state; places of the ring are none of the grid's.
func TestSetOfNoPlace(t *testing.T) {
	for _, s := range [][2]int{{1, 1}, {2, 3}, {17, 16}, {40, 1}} {
		for _, a := range someOf(s[0], s[1]) {
			b := mustNew(t, conway(), a, blank(t, a.W, a.H), 2)
			mustStep(t, b, 1)
			for _, state := range []uint8{0, 1, 2, 255} {
				for _, x := range beyond(a.W) {
					for _, y := range append(beyond(a.H), 0, a.H-1) {
						refusesSet(t, a, b, x, y, state, api.ErrPlace)
					}
				}
				for _, y := range beyond(a.H) {
					for _, x := range []int{0, a.W / 2, a.W - 1} {
						refusesSet(t, a, b, x, y, state, api.ErrPlace)
					}
				}
			}
			staysEmpty(t, a, b)
		}
	}
}

// TestSetOfNoState: a state that the rule does not have, at the corners.
func TestSetOfNoState(t *testing.T) {
	for _, a := range someOf(17, 18) {
		b := mustNew(t, conway(), a, blank(t, a.W, a.H), 2)
		mustStep(t, b, 1)
		for state := 2; state < 256; state++ {
			for _, c := range corners(a) {
				refusesSet(t, a, b, c.X, c.Y, uint8(state), api.ErrState)
			}
		}
		staysEmpty(t, a, b)
	}
}

func refusesSet(t *testing.T, a api.Topo, b *tiles.Board, x, y int, state uint8, want api.Errno) {
	t.Helper()
	if e := b.Set(x, y, state); e != want {
		t.Errorf("%v: Set(%d, %d, %d): %d, not %d", a, x, y, state, e, want)
	}
}

// staysEmpty looks whether a board at the generation 1 on which nothing lives is as it was, and nothing is fresh on it.
func staysEmpty(t *testing.T, a api.Topo, b *tiles.Board) {
	t.Helper()
	if fieldOf(t, b).Pop() != 0 || b.Gen() != 1 || b.Stirred() != b.Tiles() {
		t.Errorf("%v: behind refusals %d cells live, generation %d, %d tiles stirred", a, fieldOf(t, b).Pop(), b.Gen(), b.Stirred())
	}
	mustStep(t, b, 1)
	if b.Stirred() != 0 {
		t.Errorf("%v: refused Sets stirred %d tiles", a, b.Stirred())
	}
}

// TestSetAheadOfTheFirstStep: the first generation goes out from what was set.
func TestSetAheadOfTheFirstStep(t *testing.T) {
	d := dice(101)
	for _, r := range fewRules() {
		for _, a := range someOf(19, 20) {
			p := newPair(t, r, a, make([]uint8, a.W*a.H), false, 4)
			for range 40 {
				p.set(d.below(a.W), d.below(a.H), uint8(d.below(statesOf(r))))
			}
			p.look()
			p.step(1)
			p.step(1)
		}
	}
}

// TestSetIsSetOfAField: Sets of a board are Sets of its field, of bytes and of bits.
func TestSetIsSetOfAField(t *testing.T) {
	d := dice(103)
	for _, packed := range []bool{false, true} {
		a := api.Topo{Kind: api.Torus, W: 66, H: 17}
		f := made(t, a.W, a.H, 2, packed, d.cells(a.W*a.H, 2))
		b := mustNew(t, conway(), a, f, 3)
		for range 300 {
			x, y, state := d.below(70)-2, d.below(20)-2, uint8(d.below(3))
			if e, want := b.Set(x, y, state), f.Set(x, y, state); e != want {
				t.Errorf("Set(%d, %d, %d): %d, not %d", x, y, state, e, want)
			}
			if !fieldOf(t, b).Same(f) {
				t.Fatalf("packed %v: behind Set(%d, %d, %d) another field", packed, x, y, state)
			}
		}
	}
}

// TestSetOfGreatBoards: at the corners of the greatest grids, and beside them.
func TestSetOfGreatBoards(t *testing.T) {
	for _, s := range [][2]int{{65536, 16}, {16, 65536}, {1024, 1024}} {
		a := api.Topo{Kind: api.Torus, W: s[0], H: s[1]}
		b := mustNew(t, still(api.Moore, 2), a, blank(t, s[0], s[1]), 2)
		for _, c := range corners(a) {
			mustSet(t, b, c.X, c.Y, 1)
		}
		refusesSet(t, a, b, s[0], 0, 1, api.ErrPlace)
		refusesSet(t, a, b, 0, s[1], 1, api.ErrPlace)
		var got []api.Point
		for p := range fieldOf(t, b).Cells() {
			got = append(got, p)
		}
		if !slices.Equal(got, corners(a)) {
			t.Errorf("%v: %v", a, got)
		}
	}
}
