package strip_test

import (
	"reflect"
	"slices"
	"testing"

	"vivarium/api"
	"vivarium/strip"
)

// The sea's budget: P21.2, P21.3, P21.5 and P21.6 where there are few nodes, and P21.7, that a call with an error changes nothing.

// TestAtTheLastNode: the last node that a sea may keep, told of by Row, by Pair and by Middle, and one less.
func TestAtTheLastNode(t *testing.T) {
	rows := drawn("01011", "11010", "00111", "10001")
	node := string(slices.Concat(rows...))
	steps := []func(b *both) (int, api.Errno){
		func(b *both) (int, api.Errno) { return b.row([]uint8{1, 1, 1, 1, 1}) },
		func(b *both) (int, api.Errno) { return b.row(rows[3]) },
		func(b *both) (int, api.Errno) { return b.pair(0, 0) },
		func(b *both) (int, api.Errno) { return b.pair(1, 0) },
		func(b *both) (int, api.Errno) { return b.pair(0, 1) },
		func(b *both) (int, api.Errno) { return b.middle(b.sheet.numbers[node], 0) },
	}
	for _, r := range rules() {
		for _, a := range strips(5) {
			for i, step := range steps {
				great := newBoth(t, r, a, api.MaxSea)
				great.node(rows)
				first := great.sea.Nodes()
				step(great)
				last := great.sea.Nodes()
				for most := first; most <= last; most++ {
					b := newBoth(t, r, a, most)
					b.node(rows)
					_, e := step(b)
					if (e == api.OK) != (most == last) || e != api.OK && e != api.ErrBudget {
						t.Errorf("%v on %v: step %d: %d nodes, %d would be kept: %d", brief(r), a, i, most, last, e)
					}
					b.look()
				}
			}
		}
	}
}

// TestErrorsChangeNothing: many calls, half of them with an error, in seas that are full and in such that are not; and the same without those that had one.
func TestErrorsChangeNothing(t *testing.T) {
	for _, r := range fewRules() {
		for _, a := range strips(3) {
			for _, most := range []int{1, 3, 10, 40, 2000} {
				d := dice(97)
				all, few := newBoth(t, r, a, most), newBoth(t, r, a, most)
				for range 150 {
					call := d.call(all.sheet)
					if all.do(call) == api.OK {
						few.do(call)
					}
				}
				all.look()
				few.look()
				if !reflect.DeepEqual(all.sheet.told, few.sheet.told) {
					t.Errorf("%v on %v: other nodes", brief(r), a)
				}
			}
		}
	}
}

// call is any call of a sea with any arguments.
type call struct {
	kind  int
	cells []uint8
	a, b  int
	band  api.Band
}

// call draws one; numbers that are no node's are among them.
func (d *dice) call(s *sheet) call {
	n, states := len(s.told), statesOf(s.rule)
	c := call{kind: d.below(6), cells: d.cells(s.strip.W, states), a: d.below(n+2) - 1, b: d.below(n+2) - 1, band: d.band(s.strip.W, 0, d.below(5), states)}
	switch {
	case c.kind == 0 && d.below(4) == 0:
		c.cells = d.cells(d.below(5), min(256, states+1))
	case c.kind == 3:
		c.b = d.below(5) - 1
	case c.kind == 4:
		c.a = d.below(12) - 1
	}
	return c
}

// do makes a call, and holds it against the model.
func (b *both) do(c call) (e api.Errno) {
	b.test.Helper()
	switch c.kind {
	case 0:
		_, e = b.row(c.cells)
	case 1, 2:
		_, e = b.pair(c.a, c.b)
	case 3:
		_, e = b.middle(c.a, c.b)
	case 4:
		_, e = b.run(c.band, c.a)
	default:
		b.look()
	}
	return e
}

// TestAnyCalls: many calls of any kind one behind the other, with rules of each kind, in seas of few nodes and of many.
func TestAnyCalls(t *testing.T) {
	d := dice(101)
	for _, r := range rules() {
		for _, w := range []int{1, 2, 3, 6} {
			for _, a := range strips(w) {
				for _, most := range []int{5, 30, 150, 3000} {
					b := newBoth(t, r, a, most)
					for range 60 {
						b.do(d.call(b.sheet))
					}
					b.look()
				}
			}
		}
	}
}

// TestWorkTakesNoRoom: what a sea makes for its own work is forgotten where Row and Pair want room: it keeps as many nodes as it may.
func TestWorkTakesNoRoom(t *testing.T) {
	d := dice(103)
	for _, r := range fewRules() {
		for _, a := range strips(8) {
			for _, most := range []int{20, 100, 400} {
				b := newBoth(t, r, a, most)
				for range most {
					b.run(d.band(8, 0, 9, statesOf(r)), 1+d.below(40))
					b.row(d.cells(8, statesOf(r)))
					n := len(b.sheet.told)
					b.pair(d.below(n), d.below(n))
					b.middle(d.below(n), 0)
				}
				b.fillUp(&d)
				if _, e := b.run(d.band(8, 0, 9, statesOf(r)), 40); e == api.OK {
					t.Errorf("%v on %v: a full sea of %d nodes ran on", brief(r), a, most)
				}
				b.look()
			}
		}
	}
}

// TestMiddleInAFullSea: behind other work that fills the sea, Middle is not ErrBudget where its nodes are enough; and when other nodes have filled it, the middle is what it was.
func TestMiddleInAFullSea(t *testing.T) {
	d := dice(107)
	for _, r := range fewRules() {
		for _, a := range strips(8) {
			for level := 2; level <= 5; level++ {
				for j := range level - 1 {
					rows := d.rowsOf(a, 1<<level, statesOf(r))
					b := newBoth(t, r, a, partsOf(r, a, rows)+need(level, j))
					id := b.node(rows)
					for range 4 {
						b.run(d.band(8, 0, 30, statesOf(r)), 50)
					}
					got, e := b.middle(id, j)
					if e != api.OK {
						t.Fatalf("%v on %v: Middle of the level %d, %d: %d", brief(r), a, level, j, e)
					}
					b.fillUp(&d)
					if again, e := b.middle(id, j); e == api.OK && again != got {
						t.Errorf("%v on %v: Middle again: %d, not %d", brief(r), a, again, got)
					}
					b.look()
				}
			}
		}
	}
}

// fillUp tells of rows and of pairs of rows, till no more can be kept.
func (b *both) fillUp(d *dice) {
	b.test.Helper()
	var ids []int
	for b.sea.Nodes() < b.sheet.most {
		if id, e := b.row(d.cells(b.sheet.strip.W, statesOf(b.sheet.rule))); e == api.OK {
			ids = append(ids, id)
		}
		for range 3 {
			b.pair(ids[d.below(len(ids))], ids[d.below(len(ids))])
		}
	}
}

// TestRunInSmallSeas: of each number of nodes, Run answers as it must or is ErrBudget; and from some number on it answers.
func TestRunInSmallSeas(t *testing.T) {
	d := dice(109)
	for _, r := range fewRules() {
		for _, a := range strips(5) {
			one := d.band(5, 0, 6, statesOf(r))
			answered := 0
			for most := 1; most < 700; most += 1 + most/8 {
				b := newBoth(t, r, a, most)
				if _, e := b.run(one, 9); e == api.OK {
					answered++
				} else if answered > 0 && most > 600 {
					t.Errorf("%v on %v: %d nodes are not enough, but fewer were", brief(r), a, most)
				}
				b.run(one, 9)
				b.row(one.Rows[0])
				b.run(one, 9)
			}
			if answered == 0 {
				t.Errorf("%v on %v: no sea answers", brief(r), a)
			}
		}
	}
}

// TestTheLeastSea: of one node.
func TestTheLeastSea(t *testing.T) {
	b := newBoth(t, conway(), api.Topo{Kind: api.Torus, W: 6}, 1)
	b.row(drawn("000000")[0])
	b.row(drawn("011100")[0])
	b.pair(0, 0)
	b.middle(0, 0)
	b.look()
	one := band(6, 0, "011100")
	for _, n := range []int{1, 2, 1 << 30} {
		if got, e := b.sea.Run(one, n); e != api.ErrBudget || !isZero(got) {
			t.Errorf("Run(.., %d): %v, %d", n, got, e)
		}
	}
	if got, e := b.sea.Run(one, 0); e != api.OK || !same(got, one) {
		t.Errorf("Run(.., 0): %v, %d", got, e)
	}
}

// TestWhatWasAskedIsNotSeen: seas in which other things were asked before answer the same, where they answer.
func TestWhatWasAskedIsNotSeen(t *testing.T) {
	d := dice(113)
	for _, r := range fewRules() {
		for _, a := range strips(6) {
			var seas []*strip.Sea
			for _, most := range []int{300, 3000, 30000, 1 << 20} {
				seas = append(seas, mustNew(t, r, a, most))
			}
			for range 12 {
				one, n := d.band(6, 0, 7, statesOf(r)), d.below(50)
				var first *api.Band
				for i, s := range seas {
					for range d.below(3) {
						s.Run(d.band(6, 0, 4, statesOf(r)), d.below(30))
						id, e := s.Row(d.cells(6, statesOf(r)))
						if i > 0 && e == api.OK {
							s.Pair(id, id)
						}
					}
					got, e := s.Run(one, n)
					if e == api.OK && first == nil {
						first = &got
					}
					if e != api.OK && i == 3 || e == api.OK && !same(got, *first) {
						t.Errorf("%v on %v: Run(%v, %d): %v, %d, not %v", brief(r), a, one, n, got, e, first)
					}
				}
			}
		}
	}
}
