package rows_test

import (
	"slices"
	"testing"

	"vivarium/api"
)

// P20.2.

// stripRules are those of someRules that strips take.
func stripRules() []api.Rule { return someRules()[:4] }

// choice are rows of three columns that may be for some rules, that may not, and of other widths, wrong in several ways too.
func choice() [][]uint8 {
	return append(drawn("000", "100", "010", "001", "012", "222", "300", "003", "00", "33", "0000", "0003"), nil, []uint8{}, []uint8{0}, []uint8{0, 255, 0}, []uint8{255}, make([]uint8, 65536))
}

// TestRowOfAny: each error, and which counts where several would; in books that have room, that are full, and that fill on the way; each row twice.
func TestRowOfAny(t *testing.T) {
	met := map[api.Errno]int{}
	for _, r := range stripRules() {
		for _, a := range strips(3) {
			for most := 1; most <= 8; most++ {
				for first := range choice() {
					p := newPair(t, r, a, most)
					rows := slices.Concat(choice()[first:], choice(), choice()[:first])
					for _, cells := range rows {
						_, e := p.row(cells)
						met[e]++
					}
					p.look()
				}
			}
		}
	}
	for _, e := range []api.Errno{api.OK, api.ErrBand, api.ErrState, api.ErrBudget} {
		if met[e] == 0 {
			t.Errorf("%d is not met", e)
		}
	}
}

// TestRowOfAnyWidth: rows too short and too long, of states 0 and of states that there are not, whether the book has room or not.
func TestRowOfAnyWidth(t *testing.T) {
	for _, r := range fewRules() {
		for _, w := range []int{1, 2, 3, 8, 64} {
			for _, a := range strips(w) {
				for _, most := range []int{1, 2} {
					p := newPair(t, r, a, most)
					for _, long := range []int{0, 1, w - 1, w, w + 1, 2 * w, w + 256, w + 65536} {
						for _, state := range []uint8{0, 1, 255} {
							cells := slices.Repeat([]uint8{state}, long)
							_, e := p.row(cells)
							if (e == api.ErrBand) != (long != w) {
								t.Errorf("Row of %d states on %v: %d", long, a, e)
							}
						}
					}
				}
			}
		}
	}
}

// TestRowAtTheGreatestStates: the last state that a rule has, and one more, in each column; a full book tells what is wrong all the same.
func TestRowAtTheGreatestStates(t *testing.T) {
	for _, states := range []int{2, 3, 17, 255, 256} {
		for _, r := range []api.Rule{fading(api.Moore, 1<<2, 1<<3, states), tabled(api.Table{States: states, Hood: api.Hex})} {
			for _, a := range strips(5) {
				for x := range a.W {
					for most := 1; most <= 2; most++ {
						p := newPair(t, r, a, most)
						for state := max(0, states-2); state < min(256, states+2); state++ {
							cells := make([]uint8, a.W)
							cells[x] = uint8(state)
							if _, e := p.row(cells); (e == api.ErrState) != (state >= states) {
								t.Errorf("%v: Row(%v): %d", brief(r), cells, e)
							}
						}
					}
				}
			}
		}
	}
}

// allRows are all rows of so many columns and states, the empty one first.
func allRows(w, states int) [][]uint8 {
	all := [][]uint8{make([]uint8, w)}
	for {
		row := slices.Clone(all[len(all)-1])
		x := 0
		for x < w && int(row[x]) == states-1 {
			row[x] = 0
			x++
		}
		if x == w {
			return all
		}
		row[x]++
		all = append(all, row)
	}
}

// TestRowsAreNumberedAsTheyCome: all rows of few columns, by turns from the front and from behind, and asked again in another order.
func TestRowsAreNumberedAsTheyCome(t *testing.T) {
	for _, c := range []struct{ w, states int }{{1, 2}, {1, 256}, {2, 2}, {2, 5}, {3, 3}, {6, 2}} {
		r := fading(api.Moore, 1<<2, 1<<3, c.states)
		for _, a := range strips(c.w) {
			all := allRows(c.w, c.states)
			p := newPair(t, r, a, len(all))
			for i := range all {
				if i%2 == 0 {
					p.row(all[i/2])
				} else {
					p.row(all[len(all)-1-i/2])
				}
			}
			p.look()
			if n := p.book.Count(); n != len(all) {
				t.Errorf("%v of %v: %d rows", a, brief(r), n)
			}
			for _, row := range all {
				p.row(row)
			}
		}
	}
}

// TestRowOfAFullBook: rows that it keeps are found, others are ErrBudget, however often one asks; with each number of rows.
func TestRowOfAFullBook(t *testing.T) {
	d := dice(3)
	for _, r := range fewRules() {
		for _, a := range strips(6) {
			for most := 1; most <= 12; most++ {
				p := newPair(t, r, a, most)
				p.fill(&d, most)
				if n := p.book.Count(); n != most {
					t.Fatalf("%v on %v: %d rows, not %d", brief(r), a, n, most)
				}
				for id := range most {
					cells, _ := p.cells(id)
					if found, e := p.row(cells); found != id || e != api.OK {
						t.Errorf("Row(%v): %d, %d, not %d", cells, found, e, id)
					}
				}
				for range 10 {
					p.row(d.cells(6, statesOf(r)))
				}
				p.look()
			}
		}
	}
}

// numbered is the row whose states are the digits of a number in twos.
func numbered(w, number int) []uint8 {
	cells := make([]uint8, w)
	for x := range cells {
		cells[x] = uint8(number >> x & 1)
	}
	return cells
}

// TestRowUpToMaxBook: a book of as many rows as may be; one more is ErrBudget, and all that it keeps are found.
func TestRowUpToMaxBook(t *testing.T) {
	for _, w := range []int{16, 17} {
		a := api.Topo{Kind: api.Torus, W: w}
		b := mustNew(t, conway(), a, api.MaxBook)
		for id := range api.MaxBook {
			if got, e := b.Row(numbered(w, id)); got != id || e != api.OK || b.Count() != max(1, id+1) {
				t.Fatalf("%d columns: Row of number %d: %d, %d; %d rows", w, id, got, e, b.Count())
			}
		}
		for id := range api.MaxBook {
			if got, e := b.Row(numbered(w, id)); got != id || e != api.OK {
				t.Fatalf("%d columns: Row of number %d, again: %d, %d", w, id, got, e)
			}
			if cells, e := b.Cells(id); !slices.Equal(cells, numbered(w, id)) || e != api.OK {
				t.Fatalf("%d columns: Cells(%d): %v, %d", w, id, cells, e)
			}
		}
		if w == 17 {
			if id, e := b.Row(numbered(w, api.MaxBook)); id != 0 || e != api.ErrBudget {
				t.Errorf("one more: %d, %d", id, e)
			}
		}
		if b.Count() != api.MaxBook {
			t.Errorf("%d columns: %d rows", w, b.Count())
		}
	}
}

// TestRowOfTheWidest: rows of MaxSide states that differ in one column alone.
func TestRowOfTheWidest(t *testing.T) {
	for _, a := range strips(api.MaxSide) {
		p := newPair(t, fading(api.Hex, 1<<2, 1<<3, 5), a, 20)
		for _, x := range []int{0, 1, 255, 256, 32767, 32768, 65534, 65535} {
			for state := range uint8(4) {
				cells := make([]uint8, a.W)
				cells[x] = state + 2
				p.row(cells)
			}
		}
		p.look()
	}
}
