package rows_test

import (
	"math"
	"testing"

	"vivarium/api"
)

// P20.3.

// beyond are numbers of no row in a book of so many; those far off have, cut to fewer bits, the number of one.
func beyond(count int) []int {
	return []int{math.MinInt, math.MinInt + 1, -1 << 32, -65536, -256, -count, -2, -1, count, count + 1, count + 255, 256 + count, 65536, 65537, 1 << 31, 1 << 32, 1<<32 + 1, 1 << 40, math.MaxInt - 1, math.MaxInt}
}

// TestCellsOfEachNumber: while the book fills, of each number that there is, and of others.
func TestCellsOfEachNumber(t *testing.T) {
	d := dice(7)
	for _, r := range quietRules() {
		for _, a := range strips(1 + d.below(9)) {
			p := newPair(t, r, a, 9)
			for range 12 {
				p.look()
				for _, id := range beyond(p.book.Count()) {
					if _, e := p.cells(id); e != api.ErrNoRow {
						t.Errorf("Cells(%d) of %d rows: %d", id, p.book.Count(), e)
					}
				}
				p.row(d.cells(a.W, statesOf(r)))
			}
		}
	}
}

// TestCellsAskedAgain: in any order, and how often one asks, it is the same row.
func TestCellsAskedAgain(t *testing.T) {
	d := dice(11)
	for _, r := range fewRules() {
		for _, a := range strips(7) {
			p := newPair(t, r, a, 50)
			p.fill(&d, 40)
			for range 200 {
				p.cells(d.below(p.book.Count()))
			}
		}
	}
}

// TestCount: it goes up with rows that are new, and with nothing else.
func TestCount(t *testing.T) {
	p := newPair(t, fading(api.Moore, 1<<2, 1<<3, 3), api.Topo{Kind: api.Plane, W: 2}, 4)
	hasCount := func(what string, want int) {
		t.Helper()
		if n := p.book.Count(); n != want {
			t.Errorf("%s: %d, not %d", what, n, want)
		}
	}
	hasCount("at first", 1)
	p.row([]uint8{0, 0})
	hasCount("the empty row", 1)
	p.row([]uint8{1, 1})
	hasCount("a new row", 2)
	p.row([]uint8{1, 1})
	hasCount("that row again", 2)
	p.row([]uint8{1})
	p.row([]uint8{1, 3})
	p.row(nil)
	hasCount("rows that may not be", 2)
	p.cells(1)
	p.cells(2)
	hasCount("Cells", 2)
	p.next(0, 1, 0) // each has one living neighbour: they begin to fade
	hasCount("Next of a new row", 3)
	p.next(0, 1, 0)
	hasCount("Next again", 3)
	p.next(0, 2, 0) // they are dead
	hasCount("Next of an old row", 3)
	p.next(0, 3, 0)
	p.next(-1, 0, 0)
	hasCount("Next of no row", 3)
	p.row([]uint8{2, 1})
	hasCount("the last row", 4)
	p.row([]uint8{1, 2})
	hasCount("one more", 4)
	p.next(1, 3, 0) // 2 1 comes to 0 2, which is not kept
	hasCount("Next in a full book", 4)
}
