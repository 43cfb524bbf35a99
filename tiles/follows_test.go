package tiles_test

import (
	"slices"
	"testing"

	"vivarium/api"
	"vivarium/tiles"
)

// P18.5

// act is a Step, or, with a state that is not below 0, a Set.
type act struct {
	n, x, y, state int
}

// script is a long row of Steps and Sets of a board; cells about a place are set by turns, so that some come back to what they were.
func (d *dice) script(a api.Topo, states, length int) []act {
	var all []act
	x, y := d.below(a.W), d.below(a.H)
	for range length {
		switch d.below(4) {
		case 0:
			all = append(all, act{n: d.below(4), state: -1})
		case 1:
			x, y = d.below(a.W), d.below(a.H)
			fallthrough
		default:
			all = append(all, act{x: mod(x+d.below(3), a.W), y: mod(y+d.below(3), a.H), state: d.below(states)})
		}
	}
	return append(all, act{n: 1, state: -1})
}

// TestStepsAndSets: what long rows of them come to, for several numbers of workers, with rules of each form on grids of each kind.
func TestStepsAndSets(t *testing.T) {
	d := dice(149)
	for _, r := range fewRules() {
		for _, a := range slices.Concat(someOf(1, 1), someOf(3, 2), someOf(20, 33), someOf(18, 18), someOf(40, 1)) {
			cells := d.few(a.W*a.H, statesOf(r), 1+d.below(50))
			p := newPair(t, r, a, cells, false, 1)
			others := []*tiles.Board{}
			for _, workers := range []int{2, 3, 16} {
				others = append(others, mustNew(t, r, a, made(t, a.W, a.H, statesOf(r), statesOf(r) == 2, cells), workers))
			}
			for _, c := range d.script(a, statesOf(r), 40) {
				if c.state >= 0 {
					p.set(c.x, c.y, uint8(c.state))
				} else {
					p.step(c.n)
				}
				for _, b := range others {
					if c.state >= 0 {
						mustSet(t, b, c.x, c.y, uint8(c.state))
					} else {
						mustStep(t, b, c.n)
						pair{t, b, p.m}.look()
					}
				}
				if p.b.Stirred() > p.b.Tiles() {
					t.Fatalf("%v on %v: %d of %d tiles stirred", brief(r), a, p.b.Stirred(), p.b.Tiles())
				}
			}
		}
	}
}

// TestStepsAndSetsAreRunAndSetOfAField: as step.Run and Set of a field come to it, on greater grids, for several numbers of workers.
func TestStepsAndSetsAreRunAndSetOfAField(t *testing.T) {
	d := dice(151)
	for _, r := range fewRules() {
		for _, a := range []api.Topo{{Kind: api.Plane, W: 100, H: 70}, {Kind: api.Torus, W: 64, H: 65, Turn: api.TurnHigh, Shift: 33}, {Kind: api.Klein, W: 90, H: 31, Turn: api.TurnWide, Shift: -40}, {Kind: api.Cross, W: 49, H: 80}, {Kind: api.Sphere, W: 66, H: 66}} {
			f := made(t, a.W, a.H, statesOf(r), statesOf(r) == 2, d.few(a.W*a.H, statesOf(r), 40))
			var boards []*tiles.Board
			for _, workers := range []int{1, 4, 9, 16} {
				boards = append(boards, mustNew(t, r, a, f, workers))
			}
			for _, c := range d.script(a, statesOf(r), 30) {
				if c.state >= 0 {
					f.Set(c.x, c.y, uint8(c.state))
				} else {
					f = mustRun(t, r, a, f, c.n)
				}
				for _, b := range boards {
					if c.state >= 0 {
						mustSet(t, b, c.x, c.y, uint8(c.state))
					} else {
						mustStep(t, b, c.n)
					}
					if !fieldOf(t, b).Same(f) || b.Gen() != boards[0].Gen() || b.Stirred() != boards[0].Stirred() || b.Stirred() > b.Tiles() {
						t.Fatalf("%v on %v: behind %v another board", brief(r), a, c)
					}
				}
			}
		}
	}
}

// TestWhatRestsGoesOnResting: behind a generation in which no tile was stirred, or no cell changed, none is stirred; a Set wakes it.
func TestWhatRestsGoesOnResting(t *testing.T) {
	d := dice(157)
	rested := 0
	for _, r := range fewRules() {
		for _, a := range someOf(17, 18) {
			p := newPair(t, r, a, d.few(a.W*a.H, statesOf(r), 80), false, 5)
			for range 30 {
				was := slices.Clone(p.m.cells)
				p.step(1)
				if p.b.Stirred() > 0 && !slices.Equal(was, p.m.cells) {
					continue
				}
				rested++
				for _, n := range []int{1, 3, 1 << 10} {
					mustStep(t, p.b, n)
					if p.b.Stirred() != 0 {
						t.Fatalf("%v on %v: %d tiles stirred", brief(r), a, p.b.Stirred())
					}
				}
				p.m.gen, p.m.stirred = p.b.Gen(), 0 // the model need not go so far: nothing changes
				p.look()
				x, y := d.below(a.W), d.below(a.H)
				p.set(x, y, uint8((int(p.m.cells[y*a.W+x])+1)%statesOf(r)))
				p.step(1)
				if p.b.Stirred() == 0 {
					t.Fatalf("%v on %v: a Set stirred nothing", brief(r), a)
				}
			}
		}
	}
	if rested < 100 {
		t.Errorf("only %d times a board rested", rested)
	}
}

// TestAStepAtOnceIsStepsOneByOne: with Sets ahead of it; all that is told is the same.
func TestAStepAtOnceIsStepsOneByOne(t *testing.T) {
	d := dice(163)
	for _, r := range fewRules() {
		for _, a := range someOf(35, 19) {
			f := made(t, a.W, a.H, statesOf(r), false, d.few(a.W*a.H, statesOf(r), 30))
			one, many := mustNew(t, r, a, f, 3), mustNew(t, r, a, f, 12)
			for range 3 {
				x, y, state := d.below(a.W), d.below(a.H), uint8(d.below(statesOf(r)))
				mustSet(t, one, x, y, state)
				mustSet(t, many, x, y, state)
				n := d.below(8)
				mustStep(t, many, n)
				for range n {
					mustStep(t, one, 1)
				}
				if !fieldOf(t, one).Same(fieldOf(t, many)) || one.Gen() != many.Gen() || one.Stirred() != many.Stirred() {
					t.Fatalf("%v on %v, %d generations: %d and %d tiles stirred", brief(r), a, n, one.Stirred(), many.Stirred())
				}
			}
		}
	}
}

// TestTheSameEachTime: rows of acts that are done again come to the same, whatever goes on beside.
func TestTheSameEachTime(t *testing.T) {
	d := dice(167)
	a := api.Topo{Kind: api.Klein, W: 100, H: 90, Turn: api.TurnHigh, Shift: 7}
	r := fading(api.Moore, 1<<2, 1<<3|1<<4, 5)
	cells, script := d.few(a.W*a.H, 5, 9), d.script(a, 5, 60)
	var first []int
	for range 10 {
		b := mustNew(t, r, a, made(t, a.W, a.H, 5, false, cells), 16)
		var told []int
		for _, c := range script {
			if c.state >= 0 {
				mustSet(t, b, c.x, c.y, uint8(c.state))
			} else {
				mustStep(t, b, c.n)
			}
			told = append(told, b.Stirred(), b.Gen(), fieldOf(t, b).Pop())
		}
		if first == nil {
			first = told
		}
		if !slices.Equal(told, first) {
			t.Fatalf("%v, not %v", told, first)
		}
	}
}
