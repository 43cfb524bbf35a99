package strip_test

import (
	"math"
	"slices"
	"testing"

	"vivarium/api"
	"vivarium/window"
)

// P21.5.

// TestMiddleOfEach: of each level up to 6 and each j, with rules of each kind, of one column, two and more, in seas of just as many nodes as are enough; the rows are held against as many steps by window.Line, too.
func TestMiddleOfEach(t *testing.T) {
	d := dice(37)
	for _, r := range rules() {
		for _, w := range []int{1, 2, 3, 5} {
			for _, a := range strips(w) {
				for level := 2; level <= 6; level++ {
					rows := d.rowsOf(a, 1<<level, statesOf(r))
					for j := range level - 1 {
						b := newBoth(t, r, a, partsOf(r, a, rows)+need(level, j))
						b.hasMiddle(b.node(rows), rows, j)
					}
				}
			}
		}
	}
}

// hasMiddle looks whether the middle of a node of these rows is what window.Line makes of them; asked once and again.
func (b *both) hasMiddle(id int, rows [][]uint8, j int) {
	b.test.Helper()
	got, e := b.middle(id, j)
	if e != api.OK {
		b.test.Fatalf("%v on %v, %d nodes: Middle of the level %d, %d: %d", brief(b.sheet.rule), b.sheet.strip, b.sheet.most, b.sheet.level(b.sheet.told[id]), j, e)
	}
	b.middle(id, j)
	quarter, gone := len(rows)/4, 1<<j
	for range gone {
		rows = linesOf(b.sheet.rule, b.sheet.strip, rows)
	}
	want := rows[quarter-gone : 3*quarter-gone]
	if made, e := b.sea.Rows(got); e != api.OK || !slices.EqualFunc(made, want, slices.Equal) {
		b.test.Fatalf("%v on %v: Middle(.., %d): %v, %d, not %v", brief(b.sheet.rule), b.sheet.strip, j, short(made), e, short(want))
	}
}

// linesOf are all rows but the outermost two one generation later, by window.Line.
func linesOf(r api.Rule, t api.Topo, rows [][]uint8) [][]uint8 {
	var next [][]uint8
	for y := 1; y < len(rows)-1; y++ {
		row, e := window.Line(r, t, rows[y-1], rows[y], rows[y+1])
		if e != api.OK {
			panic(e)
		}
		next = append(next, row)
	}
	return next
}

// TestMiddleOfHighOnes: of levels up to 9, of few columns.
func TestMiddleOfHighOnes(t *testing.T) {
	d := dice(41)
	for _, r := range fewRules() {
		for _, a := range append(strips(1), strips(4)...) {
			for level := 7; level <= 9; level++ {
				if level == 9 && r.Kind != api.KindLife {
					continue // what a table says is slow to ask
				}
				rows := d.rowsOf(a, 1<<level, statesOf(r))
				for _, j := range []int{0, 1, level - 3, level - 2} {
					if spare := partsOf(r, a, rows) + need(level, j); spare <= api.MaxSea {
						b := newBoth(t, r, a, spare)
						b.hasMiddle(b.node(rows), rows, j)
					}
				}
			}
		}
	}
}

// TestMiddleBeyondThePromise: where the nodes are fewer than the chapter says are enough, but more than are made.
func TestMiddleBeyondThePromise(t *testing.T) {
	d := dice(61)
	for _, a := range append(strips(1), strips(3)...) {
		rows := d.rowsOf(a, 1<<10, 2)
		for j := 7; j <= 8; j++ {
			b := newBoth(t, odd(), a, api.MaxSea)
			if id := b.node(rows); api.MaxSea-b.sea.Nodes() >= need(10, j) {
				t.Errorf("%d nodes are enough", api.MaxSea)
			} else {
				b.hasMiddle(id, rows, j)
			}
		}
	}
}

// TestMiddleOfAllShortNodes: of four rows of one column and of two, each way in which they can live.
func TestMiddleOfAllShortNodes(t *testing.T) {
	for _, r := range []api.Rule{conway(), odd(), births(api.Hex, 1<<2|1<<4, 1<<1)} {
		for w := 1; w <= 2; w++ {
			for _, a := range strips(w) {
				b := newBoth(t, r, a, api.MaxSea)
				for number := range 1 << (4 * w) {
					rows := make([][]uint8, 4)
					for i := range 4 * w {
						rows[i/w] = append(rows[i/w], uint8(number>>i&1))
					}
					b.middle(b.node(rows), 0)
				}
				b.look()
			}
		}
	}
}

// TestMiddleOfAny: each error, and which counts where several would; j below 0, at the level less 2 and one more; nodes of the levels 0, 1 and 2; seas of few nodes and of many.
func TestMiddleOfAny(t *testing.T) {
	met := map[api.Errno]int{}
	d := dice(43)
	for _, r := range fewRules() {
		for _, a := range strips(2) {
			for _, most := range []int{40, 60, 120, 5000} {
				b := newBoth(t, r, a, most)
				id := b.node(d.rowsOf(a, 16, statesOf(r)))
				n := len(b.sheet.told)
				ids := append(beyond(n), 0, 1, 2, id-1, id)
				for _, id := range ids {
					for _, j := range []int{math.MinInt, -1 << 32, -2, -1, 0, 1, 2, 3, 4, 43, 64, 1<<32 + 1, math.MaxInt} {
						_, e := b.middle(id, j)
						met[e]++
					}
				}
				b.look()
			}
		}
	}
	for _, e := range []api.Errno{api.OK, api.ErrNode, api.ErrArg, api.ErrBudget} {
		if met[e] == 0 {
			t.Errorf("%d is not met", e)
		}
	}
}

// TestMiddleOfLowLevels: nodes of the levels 0 and 1 have no j, one of the level 2 has the j 0 alone.
func TestMiddleOfLowLevels(t *testing.T) {
	for _, a := range strips(3) {
		b := newBoth(t, conway(), a, 100)
		id, _ := b.row([]uint8{1, 1, 1})
		for level := 0; level <= 3; level++ {
			for j := -2; j <= 3; j++ {
				_, e := b.middle(id, j)
				if (e == api.OK) != (0 <= j && j <= level-2) {
					t.Errorf("%v: Middle of the level %d, %d: %d", a, level, j, e)
				}
			}
			id, _ = b.pair(id, id)
		}
		b.look()
	}
}

// TestMiddleMakesPartsKnown: what Middle answers has the next number, its parts are kept and have none, till they are told of.
func TestMiddleMakesPartsKnown(t *testing.T) {
	d := dice(47)
	for _, r := range fewRules() {
		for _, a := range strips(3) {
			b := newBoth(t, r, a, 20000)
			for range 6 {
				level := 2 + d.below(4)
				id := b.node(d.rowsOf(a, 1<<level, statesOf(r)))
				before := len(b.sheet.told)
				got, _ := b.middle(id, d.below(level-1))
				if got > before || len(b.sheet.told) > before+1 {
					t.Errorf("%v on %v: Middle: %d, where %d were told of", brief(r), a, got, before)
				}
				for _, row := range b.sheet.rows(b.sheet.told[got]) {
					was := b.sea.Nodes()
					if b.row(row); b.sea.Nodes() != was {
						t.Errorf("%v on %v: a part of what Middle answers was not kept", brief(r), a)
					}
				}
				b.look()
			}
		}
	}
}

// TestMiddleOfOldAnswers: middles of middles, down to the level 1.
func TestMiddleOfOldAnswers(t *testing.T) {
	d := dice(53)
	for _, r := range fewRules() {
		for _, a := range strips(4) {
			for range 3 {
				b := newBoth(t, r, a, 50000)
				id := b.node(d.rowsOf(a, 64, statesOf(r)))
				for level := 6; level >= 2; level-- {
					id, _ = b.middle(id, d.below(level-1))
				}
				b.look()
			}
		}
	}
}

// TestMiddleOfTheHighest: a blinker in the midst of nodes up to the level 44, of each j: what comes is the node that Pair makes, by its number.
func TestMiddleOfTheHighest(t *testing.T) {
	for _, a := range strips(5) {
		s := mustNew(t, conway(), a, 1<<16)
		lying, standing := blinkers(t, s)
		for level := 4; level <= 44; level++ {
			for j := range level - 1 {
				want := lying[level-1]
				if j == 0 {
					want = standing[level-1]
				}
				if got, e := s.Middle(lying[level], j); got != want || e != api.OK {
					t.Errorf("%v: Middle of the level %d, %d: %d, %d, not %d", a, level, j, got, e, want)
				}
			}
		}
	}
}

// blinkers are nodes of each level from 3 on in whose midst a blinker lies: the lower half begins with its row; and such in whose midst it stands.
func blinkers(test *testing.T, s sea) (lying, standing []int) {
	test.Helper()
	row := func(line string) int {
		id, e := s.Row(drawn(line)[0])
		return mustBe(test, id, e)
	}
	pair := func(up, low int) int {
		id, e := s.Pair(up, low)
		return mustBe(test, id, e)
	}
	empty, three, one := row("00000"), row("01110"), row("00100")
	lying, standing = make([]int, 45), make([]int, 45)
	none := pair(empty, empty)
	halves := [4]int{none, pair(three, empty), pair(empty, one), pair(one, one)}
	for level := 2; level <= 44; level++ {
		lying[level], standing[level] = pair(halves[0], halves[1]), pair(halves[2], halves[3])
		halves = [4]int{pair(none, halves[0]), pair(halves[1], none), pair(none, halves[2]), pair(halves[3], none)}
		if level < 44 {
			none = pair(none, none)
		}
	}
	return lying, standing
}

// sea is what makes nodes.
type sea interface {
	Row(cells []uint8) (int, api.Errno)
	Pair(a, b int) (int, api.Errno)
}

// mustBe is the number that there must be.
func mustBe(test *testing.T, id int, e api.Errno) int {
	test.Helper()
	if e != api.OK {
		test.Fatalf("no node: %d", e)
	}
	return id
}

// TestMiddleOfTheWidest: rows of MaxSide states; where the nodes are enough, it is not refused, however many cells are worked out.
func TestMiddleOfTheWidest(t *testing.T) {
	const level = 11
	a := api.Topo{Kind: api.Torus, W: api.MaxSide}
	d := dice(59)
	s := mustNew(t, births(api.Moore, 0, 0), a, 6000+need(level, 0))
	var ids []int
	for range 7 {
		id, e := s.Row(d.cells(api.MaxSide, 2))
		ids = append(ids, mustBe(t, id, e))
	}
	id := built(t, s, level, func() int { return ids[d.below(len(ids))] })
	if s.Nodes() > 6000 {
		t.Fatalf("%d nodes are kept", s.Nodes())
	}
	got, e := s.Middle(id, 0)
	if is, f := s.Level(got); e != api.OK || is != level-1 || f != api.OK {
		t.Errorf("Middle: %d, %d; its level: %d, %d", got, e, is, f)
	}
}

// built is a node of a level, whose rows are these nodes one behind the other.
func built(test *testing.T, s sea, level int, row func() int) int {
	test.Helper()
	if level == 0 {
		return row()
	}
	up := built(test, s, level-1, row)
	id, e := s.Pair(up, built(test, s, level-1, row))
	return mustBe(test, id, e)
}
