package rows_test

import (
	"slices"
	"testing"

	"vivarium/api"
	"vivarium/rows"
)

// P20.5.

// act is any call with any arguments, wrong ones among them, held against the model.
func (p *pair) act(d *dice) {
	p.test.Helper()
	n := p.book.Count()
	switch d.below(8) {
	case 0:
		p.cells(d.below(n+4) - 2)
	case 1:
		p.row(d.cells(d.below(p.list.strip.W+2), statesOf(p.list.rule)))
	case 2:
		p.row(d.cells(p.list.strip.W, min(256, statesOf(p.list.rule)+1)))
	case 3, 4:
		p.row(d.cells(p.list.strip.W, statesOf(p.list.rule)))
	case 5:
		p.next(d.below(n+2)-1, d.below(n+2)-1, d.below(n+2)-1)
	default:
		p.next(d.below(n), d.below(n), d.below(n))
	}
}

// TestAnyCalls: many calls of any kind one behind the other; all rows are looked at now and again.
func TestAnyCalls(t *testing.T) {
	d := dice(37)
	for _, r := range quietRules() {
		for _, w := range []int{1, 2, 3, 6} {
			for _, a := range strips(w) {
				p := newPair(t, r, a, 1+d.below(40))
				for i := range 60 {
					p.act(&d)
					if i%20 == 19 {
						p.look()
					}
				}
			}
		}
	}
}

// TestRowOfCells: of each number, while the book fills and when it is full, is the number.
func TestRowOfCells(t *testing.T) {
	d := dice(41)
	for _, r := range fewRules() {
		for _, a := range slices.Concat(strips(2), strips(5), strips(33)) {
			b := mustNew(t, r, a, 25)
			for range 60 {
				for id := range b.Count() {
					cells, e := b.Cells(id)
					if e != api.OK {
						t.Fatal(e)
					}
					if got, e := b.Row(cells); got != id || e != api.OK {
						t.Errorf("%v on %v: Row of Cells(%d): %d, %d", brief(r), a, id, got, e)
					}
				}
				if n := b.Count(); d.below(2) == 0 {
					b.Next(d.below(n), d.below(n), d.below(n))
				} else {
					b.Row(d.cells(a.W, statesOf(r)))
				}
			}
		}
	}
}

// TestOneNumberJustIfTheSame: no two numbers are of one row; each row that differs in one column from a kept one has another number.
func TestOneNumberJustIfTheSame(t *testing.T) {
	d := dice(43)
	for _, r := range fewRules() {
		for _, a := range slices.Concat(strips(1), strips(4), strips(70)) {
			b := mustNew(t, r, a, 400)
			cells := d.cells(a.W, statesOf(r))
			id, _ := b.Row(cells)
			for x := range cells {
				for state := range min(statesOf(r), 5) {
					other := slices.Clone(cells)
					other[x] = uint8(state)
					if got, e := b.Row(other); e != api.OK || (got == id) != slices.Equal(other, cells) {
						t.Errorf("Row(%v): %d, %d, beside Row(%v): %d", short(other), got, e, short(cells), id)
					}
				}
			}
			apart(t, b)
		}
	}
}

// apart looks whether no two rows of a book are the same.
func apart(test *testing.T, b *rows.Book) {
	test.Helper()
	seen := map[string]int{}
	for id := range b.Count() {
		cells, _ := b.Cells(id)
		if was, is := seen[string(cells)]; is {
			test.Errorf("%d and %d are both %v", was, id, short(cells))
		}
		seen[string(cells)] = id
	}
}

// TestNumbersStandForEver: rows and what came of them are asked again behind many others.
func TestNumbersStandForEver(t *testing.T) {
	d := dice(47)
	for _, r := range fewRules() {
		for _, a := range strips(12) {
			b := mustNew(t, r, a, 2000)
			early := d.cells(12, statesOf(r))
			id, _ := b.Row(early)
			later, _ := b.Next(0, id, id)
			laterCells, _ := b.Cells(later)
			for range 3000 {
				n := b.Count()
				b.Row(d.cells(12, statesOf(r)))
				b.Next(d.below(n), d.below(n), d.below(n))
			}
			if b.Count() != 2000 {
				t.Errorf("%v: %d rows", brief(r), b.Count())
			}
			got, e := b.Row(early)
			cells, f := b.Cells(id)
			if got != id || e != api.OK || f != api.OK || !slices.Equal(cells, early) {
				t.Errorf("%v: %d was %v, is %v, found as %d", brief(r), id, early, cells, got)
			}
			next, e := b.Next(0, id, id)
			nextCells, f := b.Cells(later)
			if next != later || e != api.OK || f != api.OK || !slices.Equal(nextCells, laterCells) {
				t.Errorf("%v: Next was %d, %v, is %d, %v", brief(r), later, laterCells, next, nextCells)
			}
			apart(t, b)
		}
	}
}

// TestCallsWithAnErrorKeepNoRow: each error of each call; what was asked for in vain is asked for in vain again, and rows that come behind it have the next numbers.
func TestCallsWithAnErrorKeepNoRow(t *testing.T) {
	for _, r := range stripRules() {
		for _, a := range strips(3) {
			p := newPair(t, r, a, 3)
			first, _ := p.row([]uint8{1, 0, 0})
			for _, cells := range choice() {
				if len(cells) != 3 || int(slices.Max(cells)) >= statesOf(r) {
					p.row(cells)
				}
			}
			for _, id := range beyond(2) {
				p.cells(id)
				p.next(id, 0, first)
				p.next(first, id, 0)
				p.next(0, first, id)
			}
			if second, e := p.row([]uint8{0, 1, 1}); second != first+1 || e != api.OK {
				t.Errorf("%v on %v: %d, %d", brief(r), a, second, e)
			}
			for range 2 {
				p.row([]uint8{0, 1, 0})
				p.row([]uint8{1, 1, 1})
				p.next(1, 2, 1)
				p.next(2, 1, 2)
			}
			p.look()
		}
	}
}

// TestOfNothingComesNothing: however full the book is, and whatever was asked.
func TestOfNothingComesNothing(t *testing.T) {
	d := dice(53)
	for _, r := range quietRules() {
		for _, w := range []int{1, 2, 5} {
			for _, a := range strips(w) {
				p := newPair(t, r, a, 4)
				for range 8 {
					if id, e := p.book.Next(0, 0, 0); id != 0 || e != api.OK {
						t.Errorf("%v on %v: Next(0, 0, 0): %d, %d", brief(r), a, id, e)
					}
					p.act(&d)
				}
			}
		}
	}
}

// TestCountGoesUpByOne: it never falls, goes up by one at most with a call of Row or Next and not at all with others, and never above what New was told.
func TestCountGoesUpByOne(t *testing.T) {
	d := dice(59)
	for _, r := range fewRules() {
		for _, a := range strips(4) {
			for _, most := range []int{1, 2, 3, 10, 100} {
				b := mustNew(t, r, a, most)
				for range 150 {
					was, may := b.Count(), 1
					switch d.below(4) {
					case 0:
						b.Cells(d.below(was+2) - 1)
						may = 0
					case 1:
						b.Row(d.cells(4, statesOf(r)))
					case 2:
						if _, e := b.Row(d.cells(3+d.below(3), min(256, statesOf(r)+1))); e != api.OK {
							may = 0
						}
					case 3:
						if _, e := b.Next(d.below(was+1), d.below(was+1), d.below(was+1)); e != api.OK {
							may = 0
						}
					}
					if n := b.Count(); n < was || n > was+may || n > most {
						t.Fatalf("%v on %v, at most %d: %d rows, before %d", brief(r), a, most, n, was)
					}
				}
			}
		}
	}
}
