package strip_test

import (
	"math"
	"slices"
	"testing"

	"vivarium/api"
)

// P21.2, P21.3, P21.4.

// beyond are numbers of no nodes, where there are so many.
func beyond(count int) []int {
	return []int{math.MinInt, -1 << 32, -count - 1, -2, -1, count, count + 1, 2 * count, 1 << 20, 1<<32 + count, 1 << 32, math.MaxInt}
}

// TestRowOfAllShortRows: of one, two and three columns, each row, asked once and again, in any order.
func TestRowOfAllShortRows(t *testing.T) {
	d := dice(17)
	for _, r := range []api.Rule{conway(), fading(api.Hex, 1<<2, 1<<1, 3)} {
		for w := 1; w <= 3; w++ {
			for _, a := range strips(w) {
				b := newBoth(t, r, a, 27)
				for range 100 {
					b.row(d.cells(w, statesOf(r)))
				}
				b.look()
			}
		}
	}
}

// TestRowOfAny: each error, and which counts where several would; rows too short and too long, states that the rule does not have, full seas.
func TestRowOfAny(t *testing.T) {
	met := map[api.Errno]int{}
	d := dice(19)
	for _, r := range rules() {
		for _, a := range strips(4) {
			for _, most := range []int{1, 2, 5, 300} {
				b := newBoth(t, r, a, most)
				b.row(nil)
				b.row([]uint8{})
				for range 40 {
					cells := d.cells(d.below(7), statesOf(r))
					if d.below(2) == 0 {
						cells = d.cells(4, statesOf(r))
					}
					if len(cells) > 0 && d.below(3) == 0 {
						cells[d.below(len(cells))] = uint8(min(255, statesOf(r)+d.below(3)))
					}
					_, e := b.row(cells)
					met[e]++
				}
				b.look()
			}
		}
	}
	for _, e := range []api.Errno{api.OK, api.ErrBand, api.ErrState, api.ErrBudget} {
		if met[e] == 0 {
			t.Errorf("%d is not met", e)
		}
	}
}

// TestRowTellsEachState: the greatest state that a rule has, and one more, in each column.
func TestRowTellsEachState(t *testing.T) {
	for _, r := range rules() {
		b := newBoth(t, r, api.Topo{Kind: api.Plane, W: 3}, 100)
		for x := range 3 {
			for _, state := range []int{0, 1, statesOf(r) - 1, statesOf(r), statesOf(r) + 1, 255} {
				if state < 256 {
					cells := make([]uint8, 3)
					cells[x] = uint8(state)
					b.row(cells)
				}
			}
		}
		b.look()
	}
}

// TestRowOfTheWidest: rows of MaxSide states, which differ in one column.
func TestRowOfTheWidest(t *testing.T) {
	d := dice(23)
	for _, a := range strips(api.MaxSide) {
		b := newBoth(t, fading(api.Moore, 1<<2, 0, 5), a, 4)
		cells := d.cells(api.MaxSide, 5)
		for _, x := range []int{0, 1, api.MaxSide / 2, api.MaxSide - 1, 0} {
			b.row(cells)
			cells[x] = (cells[x] + 1) % 5
		}
		b.row(cells[1:])
		b.row(append(cells, 0))
		b.look()
	}
}

// TestRowOfVeryMany: more rows than a book has room for, and as many as the greatest sea has; the last one is kept, and one more is not.
func TestRowOfVeryMany(t *testing.T) {
	const w = 21
	s := mustNew(t, conway(), api.Topo{Kind: api.Torus, W: w}, api.MaxSea)
	row := make([]uint8, w)
	numbered := func(number int) []uint8 {
		for x := range row {
			row[x] = uint8(number >> x & 1)
		}
		return row
	}
	for number := range api.MaxSea {
		if id, e := s.Row(numbered(number)); id != number || e != api.OK {
			t.Fatalf("Row %d: %d, %d", number, id, e)
		}
	}
	if id, e := s.Row(numbered(api.MaxSea)); id != 0 || e != api.ErrBudget || s.Nodes() != api.MaxSea {
		t.Errorf("one row more: %d, %d; keeps %d", id, e, s.Nodes())
	}
	if id, e := s.Pair(0, 0); id != 0 || e != api.ErrBudget {
		t.Errorf("a pair: %d, %d", id, e)
	}
	for _, number := range []int{0, 1, 65535, 65536, 1 << 19, api.MaxSea - 1} {
		id, e := s.Row(numbered(number))
		rows, f := s.Rows(number)
		if id != number || e != api.OK || f != api.OK || len(rows) != 1 || !slices.Equal(rows[0], numbered(number)) {
			t.Errorf("Row %d again: %d, %d; Rows: %v, %d", number, id, e, rows, f)
		}
	}
}

// TestPairOfAny: each error, and which counts where several would, in seas that fill.
func TestPairOfAny(t *testing.T) {
	met := map[api.Errno]int{}
	d := dice(29)
	for _, r := range fewRules() {
		for _, a := range strips(3) {
			for _, most := range []int{2, 3, 7, 20, 200} {
				b := newBoth(t, r, a, most)
				b.fill(&d, 3)
				for range 40 {
					n := len(b.sheet.told)
					ids := append(beyond(n), 0, n-1)
					up, low := d.below(n), d.below(n)
					if d.below(4) == 0 {
						up = ids[d.below(len(ids))]
					}
					if d.below(4) == 0 {
						low = ids[d.below(len(ids))]
					}
					_, e := b.pair(up, low)
					met[e]++
				}
				b.look()
			}
		}
	}
	for _, e := range []api.Errno{api.OK, api.ErrNode, api.ErrUnlike, api.ErrBudget} {
		if met[e] == 0 {
			t.Errorf("%d is not met", e)
		}
	}
}

// TestPairTellsUpperAndLower: the two orders are two nodes, and of each level anew.
func TestPairTellsUpperAndLower(t *testing.T) {
	for _, a := range strips(2) {
		b := newBoth(t, conway(), a, 100)
		up, _ := b.row([]uint8{0, 1})
		low, _ := b.row([]uint8{1, 1})
		for range 6 {
			one, _ := b.pair(up, low)
			other, _ := b.pair(low, up)
			if again, _ := b.pair(up, low); one == other || again != one {
				t.Errorf("%d over %d: %d and again %d; the other way round %d", up, low, one, again, other)
			}
			up, low = one, other
		}
		b.look()
	}
}

// TestPairUpToTheHighest: a node of the level 44 there is, none above it; ErrMany counts behind ErrNode and ErrUnlike and ahead of ErrBudget.
func TestPairUpToTheHighest(t *testing.T) {
	for _, most := range []int{45, 46, 1000} {
		s := mustNew(t, conway(), api.Topo{Kind: api.Torus, W: 3}, most)
		low, _ := s.Row([]uint8{0, 1, 0})
		id := low
		for level := 1; level <= 44; level++ {
			up, e := s.Pair(id, id)
			is, f := s.Level(up)
			if up != level || e != api.OK || is != level || f != api.OK || s.Nodes() != level+1 {
				t.Fatalf("a node of the level %d: %d, %d; its level is %d, %d; %d are kept", level, up, e, is, f, s.Nodes())
			}
			id = up
		}
		for _, c := range []struct {
			a, b int
			want api.Errno
		}{{44, 44, api.ErrMany}, {44, 45, api.ErrNode}, {-1, 44, api.ErrNode}, {44, 43, api.ErrUnlike}, {43, 44, api.ErrUnlike}, {0, 44, api.ErrUnlike}} {
			if got, e := s.Pair(c.a, c.b); got != 0 || e != c.want || s.Nodes() != 45 {
				t.Errorf("%d nodes: Pair(%d, %d): %d, %d, not %d", most, c.a, c.b, got, e, c.want)
			}
		}
		if got, e := s.Pair(43, 43); got != 44 || e != api.OK {
			t.Errorf("Pair(43, 43) again: %d, %d", got, e)
		}
		if rows, e := s.Rows(44); rows != nil || e != api.ErrBudget {
			t.Errorf("Rows of the highest: %d, %d", len(rows), e)
		}
	}
}

// TestRowsUpToMaxCells: nodes of just MaxCells cells and of the next level, narrow and wide ones.
func TestRowsUpToMaxCells(t *testing.T) {
	for _, c := range []struct{ w, level int }{{1, 20}, {2, 19}, {3, 18}, {5, 17}, {16, 16}, {1000, 10}, {1025, 9}, {65535, 4}, {65536, 4}} {
		for _, a := range strips(c.w) {
			s := mustNew(t, fading(api.Hex, 1<<2, 0, 9), a, 100)
			one, other := make([]uint8, c.w), make([]uint8, c.w)
			one[c.w-1], other[0] = 7, 8
			up, _ := s.Row(one)
			low, _ := s.Row(other)
			id, _ := s.Pair(up, low)
			for range c.level - 1 {
				id, _ = s.Pair(id, id)
			}
			rows, e := s.Rows(id)
			if e != api.OK || len(rows) != 1<<c.level {
				t.Fatalf("%v: Rows at the level %d: %d, %d", a, c.level, len(rows), e)
			}
			for y, row := range rows {
				if want := [][]uint8{one, other}[y%2]; !slices.Equal(row, want) {
					t.Fatalf("%v: row %d of the level %d: %v", a, y, c.level, short(row))
				}
			}
			high, _ := s.Pair(id, id)
			if rows, e := s.Rows(high); rows != nil || e != api.ErrBudget {
				t.Errorf("%v: Rows at the level %d: %d, %d", a, c.level+1, len(rows), e)
			}
			if level, e := s.Level(high); level != c.level+1 || e != api.OK {
				t.Errorf("%v: Level: %d, %d", a, level, e)
			}
		}
	}
}

// TestLevelAndRowsOfNoNode: each number that is no node's.
func TestLevelAndRowsOfNoNode(t *testing.T) {
	d := dice(31)
	b := newBoth(t, conway(), api.Topo{Kind: api.Plane, W: 3}, 1000)
	for range 20 {
		b.middle(b.node(d.rowsOf(b.sheet.strip, 8, 2)), 1)
		n := len(b.sheet.told)
		for _, id := range append(beyond(n), b.sea.Nodes()) {
			level, e := b.sea.Level(id)
			rows, f := b.sea.Rows(id)
			if level != 0 || e != api.ErrNode || rows != nil || f != api.ErrNode {
				t.Errorf("%d, of %d: Level: %d, %d; Rows: %v, %d", id, n, level, e, rows, f)
			}
		}
	}
	b.look()
}
