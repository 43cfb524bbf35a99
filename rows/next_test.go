package rows_test

import (
	"slices"
	"testing"

	"vivarium/api"
	"vivarium/window"
)

// P20.4.

// hasNext holds Next against the model, asked once and again, and the row that it answers against window.Line of the three.
func (p *pair) hasNext(above, here, below int) {
	p.test.Helper()
	id, e := p.next(above, here, below)
	p.next(above, here, below)
	if e != api.OK {
		return
	}
	l := p.list
	cells, _ := p.cells(id)
	if line, e := window.Line(l.rule, l.strip, l.rows[above], l.rows[here], l.rows[below]); e != api.OK || !slices.Equal(cells, line) {
		p.test.Fatalf("%v on %v: Next(%d, %d, %d): %v, but Line is %v, %d", brief(l.rule), l.strip, above, here, below, cells, line, e)
	}
}

// TestNextOfAllShortRows: of one, two and three columns, each way in which three rows can live.
func TestNextOfAllShortRows(t *testing.T) {
	for _, r := range append(quietRules(), conway()) {
		if statesOf(r) > 2 {
			continue
		}
		for w := 1; w <= 3; w++ {
			for _, a := range strips(w) {
				p := newPair(t, r, a, 1<<w)
				for _, row := range allRows(w, 2) {
					p.row(row)
				}
				for above := range 1 << w {
					for here := range 1 << w {
						for below := range 1 << w {
							p.next(above, here, below)
						}
					}
				}
			}
		}
	}
}

// TestNextOfAnyStates: rules of each kind, neighbourhood, symmetry and number of states, on narrow and wide strips; the rows that come are asked of, too.
func TestNextOfAnyStates(t *testing.T) {
	d := dice(13)
	for _, r := range quietRules() {
		for _, w := range []int{1, 2, 3, 4, 7, 65} {
			for _, a := range strips(w) {
				p := newPair(t, r, a, 30)
				p.fill(&d, 5)
				for range 3 + 20/w {
					n := p.book.Count()
					p.hasNext(d.below(n), d.below(n), d.below(n))
				}
				p.look()
			}
		}
	}
}

// TestNextOfOneLivingRow: a living row above, here or below the two empty ones: which of the three is which, and that no order is mistaken for another.
func TestNextOfOneLivingRow(t *testing.T) {
	for near := range offsets {
		for number, from := range offsets[near] {
			r := wind(near, number, 3)
			for w := 1; w <= 5; w++ {
				for _, a := range strips(w) {
					for x := range w {
						p := newPair(t, r, a, 20)
						cells := make([]uint8, w)
						cells[x] = 2
						one, _ := p.row(cells)
						for y, ids := range [][3]int{{one, 0, 0}, {0, one, 0}, {0, 0, one}} {
							id, _ := p.next(ids[0], ids[1], ids[2])
							if from.Y != y-1 && id != 0 {
								t.Errorf("the neighbour %d of %d on %v: %v comes to %d", number, near, a, ids, id)
							}
						}
					}
				}
			}
		}
	}
}

// TestNextOfTheWidest: rows of MaxSide states.
func TestNextOfTheWidest(t *testing.T) {
	d := dice(17)
	for _, r := range []api.Rule{conway(), fading(api.Hex, 1<<2, 1<<3, 5), wind(api.Moore, 1, 3)} {
		for _, a := range strips(api.MaxSide) {
			p := newPair(t, r, a, 6)
			p.fill(&d, 4)
			p.hasNext(1, 2, 3)
			p.hasNext(3, 2, 1)
			p.hasNext(3, 3, 3) // if all that came were new, the book is full
			p.look()
		}
	}
}

// TestNextOfAny: each error, and which counts where several would; each of the three no number of a row, and a full book.
func TestNextOfAny(t *testing.T) {
	met := map[api.Errno]int{}
	d := dice(19)
	for _, r := range stripRules() {
		for _, a := range strips(3) {
			for most := 1; most <= 7; most++ {
				p := newPair(t, r, a, most)
				p.fill(&d, min(most, 4))
				n := p.book.Count()
				ids := append(beyond(7), 0, 1, 2, 3, 4, 5, 6, n-1, n)
				for _, above := range ids {
					for _, here := range ids {
						for _, below := range ids {
							_, e := p.next(above, here, below)
							met[e]++
						}
					}
				}
				p.look()
			}
		}
	}
	for _, e := range []api.Errno{api.OK, api.ErrNoRow, api.ErrBudget} {
		if met[e] == 0 {
			t.Errorf("%d is not met", e)
		}
	}
}

// TestNextOfAFullBook: what comes of any three rows is found, if it is kept; else it is ErrBudget, and is not kept behind that either.
func TestNextOfAFullBook(t *testing.T) {
	d := dice(23)
	met := map[api.Errno]int{}
	for _, r := range quietRules() {
		for _, a := range slices.Concat(strips(1), strips(2), strips(5)) {
			for _, most := range []int{1, 2, 5} {
				p := newPair(t, r, a, most)
				p.fill(&d, most)
				n := p.book.Count()
				for range 20 {
					above, here, below := d.below(n), d.below(n), d.below(n)
					_, e := p.next(above, here, below)
					met[e]++
					p.row(modelLine(r, a, beside{p.list.rows[above], p.list.rows[here], p.list.rows[below]}))
					p.next(above, here, below)
				}
			}
		}
	}
	if met[api.OK] == 0 || met[api.ErrBudget] == 0 {
		t.Error(met)
	}
}

// TestNextFillsTheBook: the last row that the book has room for comes by Next; what was answered ahead of that is answered behind it.
func TestNextFillsTheBook(t *testing.T) {
	d := dice(29)
	for _, r := range fewRules() {
		for _, a := range strips(9) {
			for most := 3; most <= 9; most++ {
				p := newPair(t, r, a, most)
				p.fill(&d, 3)
				var asked [][3]int
				for range 40 {
					n := p.book.Count()
					ids := [3]int{d.below(n), d.below(n), d.below(n)}
					asked = append(asked, ids)
					p.next(ids[0], ids[1], ids[2])
				}
				for _, ids := range asked {
					p.next(ids[0], ids[1], ids[2])
				}
				p.look()
			}
		}
	}
}

// TestNextOfVeryManyThrees: of more threes than may be remembered; all rows of seven columns are kept, by the numbers that they are in twos.
func TestNextOfVeryManyThrees(t *testing.T) {
	const w, count = 7, 102
	a := api.Topo{Kind: api.Torus, W: w}
	b := mustNew(t, conway(), a, 1<<w)
	for number := range 1 << w {
		b.Row(numbered(w, number))
	}
	ask := func(above, here, below int) {
		if id, e := b.Next(above, here, below); e != api.OK || id != bitsNext(w, above, here, below) {
			t.Fatalf("Next(%d, %d, %d): %d, %d", above, here, below, id, e)
		}
	}
	for above := range count {
		for here := range count {
			for below := range count {
				ask(above, here, below)
			}
		}
	}
	for id := range 1 << w {
		ask(id, id, id)
		ask(0, 1, id)
		ask(id, 1, 0)
	}
}

// bitsNext is what B3/S23 makes of three rows as numbers on a Torus.
func bitsNext(w, above, here, below int) int {
	next := 0
	for x := range w {
		left, right := (x+w-1)%w, (x+1)%w
		count := above>>left&1 + above>>x&1 + above>>right&1 + here>>left&1 + here>>right&1 + below>>left&1 + below>>x&1 + below>>right&1
		if count == 3 || count == 2 && here>>x&1 == 1 {
			next |= 1 << x
		}
	}
	return next
}

// TestNextOfGreatNumbers: in a book of MaxBook rows, three rows with numbers up to the last, also ones that differ in a great part alone.
func TestNextOfGreatNumbers(t *testing.T) {
	const w = 16
	d := dice(31)
	b := mustNew(t, conway(), api.Topo{Kind: api.Torus, W: w}, api.MaxBook)
	for number := range 1 << w {
		b.Row(numbered(w, number))
	}
	ask := func(above, here, below int) {
		t.Helper()
		if id, e := b.Next(above, here, below); e != api.OK || id != bitsNext(w, above, here, below) {
			t.Fatalf("Next(%d, %d, %d): %d, %d", above, here, below, id, e)
		}
	}
	for range 2000 {
		above, here, below := d.below(1<<w), d.below(1<<w), d.below(1<<w)
		ask(above, here, below)
		ask(above&255, here&255, below&255)
		ask(above, here, below)
	}
	for bit := range w {
		ask(5, 6, 7)
		ask(5^1<<bit, 6, 7)
		ask(5, 6^1<<bit, 7)
		ask(5, 6, 7^1<<bit)
	}
	for _, last := range []int{1<<w - 1, 1 << 15, 1<<15 - 1, 256, 255} {
		ask(last, 0, 0)
		ask(0, last, 0)
		ask(0, 0, last)
		ask(last, last, last)
	}
}
