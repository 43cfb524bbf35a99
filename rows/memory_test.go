package rows_test

import (
	"reflect"
	"slices"
	"sync"
	"testing"

	"vivarium/api"
	"vivarium/rows"
)

// DOC.md's 'Memory', the chapter's Ways, R2.

// overwrite writes over all lists of a rule; overwriteStates and overwriteAround the innermost alone.
func overwrite(r api.Rule) {
	overwriteStates(r)
	overwriteAround(r)
	for i := range r.Table.Vars {
		r.Table.Vars[i] = api.Var{Name: "z"}
	}
	for i := range r.Table.Rows {
		r.Table.Rows[i] = api.Trans{Centre: st(1), Out: st(0)}
	}
}

func overwriteStates(r api.Rule) {
	for _, v := range r.Table.Vars {
		clear(v.States)
	}
}

func overwriteAround(r api.Rule) {
	for _, row := range r.Table.Rows {
		for i := range row.Around {
			row.Around[i] = st(1)
		}
	}
}

// TestRulesWrittenOverBehindNew: the book goes on with the rule that it was handed, and leaves it as it is.
func TestRulesWrittenOverBehindNew(t *testing.T) {
	d := dice(61)
	for _, r := range quietRules() {
		for _, a := range strips(5) {
			for _, write := range []func(api.Rule){overwrite, overwriteStates, overwriteAround} {
				handed := copied(r)
				p := newPair(t, handed, a, 60)
				p.list.rule = r
				p.fill(&d, 5)
				p.next(1, 2, 3)
				p.next(1, 2, 70)
				if !reflect.DeepEqual(handed, r) {
					t.Fatalf("%v: the rule was changed", brief(r))
				}
				write(handed)
				for range 10 {
					n := p.book.Count()
					p.next(d.below(n), d.below(n), d.below(n))
					p.row(d.cells(5, statesOf(r)))
				}
				p.look()
			}
		}
	}
}

// TestRowsWrittenOverBehindRow: the book keeps what was handed in, not the list; the list and its spare room stay as they are, till they are written over.
func TestRowsWrittenOverBehindRow(t *testing.T) {
	d := dice(67)
	for _, r := range fewRules() {
		for _, a := range slices.Concat(strips(1), strips(5)) {
			p := newPair(t, r, a, 30)
			room := d.cells(a.W+7, statesOf(r))
			for range 40 {
				was := slices.Clone(room)
				p.row(room[:a.W])
				p.row(room[:a.W])
				p.book.Row(room[:a.W+1])
				if !slices.Equal(room, was) {
					t.Fatalf("%v on %v: what was handed in is another: %v, not %v", brief(r), a, room, was)
				}
				copy(room, d.cells(len(room), statesOf(r)))
			}
			p.look()
		}
	}
}

// TestRowsThatAreCutOutOfOneList: lists that lie one over the other are rows as any others.
func TestRowsThatAreCutOutOfOneList(t *testing.T) {
	d := dice(71)
	for _, r := range fewRules() {
		p := newPair(t, r, api.Topo{Kind: api.Plane, W: 5}, 30)
		list := d.cells(24, statesOf(r))
		for from := range 20 {
			p.row(list[from : from+5])
		}
		p.look()
	}
}

// spoil writes over a list and all the room behind it.
func spoil(cells []uint8) {
	for x := range cells {
		cells[x] = 99
	}
	_ = append(cells, slices.Repeat([]uint8{98}, cap(cells)-len(cells))...)
}

// TestAnswersWrittenOver: rows that were handed out are written over and grown, and neither the book nor another answer changes.
func TestAnswersWrittenOver(t *testing.T) {
	d := dice(73)
	for _, r := range fewRules() {
		for _, a := range slices.Concat(strips(1), strips(4), strips(33)) {
			p := newPair(t, r, a, 12)
			p.fill(&d, 6)
			p.next(1%p.book.Count(), 0, 0)
			for id := range p.book.Count() {
				one, _ := p.cells(id)
				other, _ := p.cells(id)
				was := slices.Clone(other)
				spoil(one)
				if !slices.Equal(other, was) {
					t.Errorf("%v on %v: two answers of Cells(%d) share memory", brief(r), a, id)
				}
				p.row(other)
				spoil(other)
				p.look()
			}
			n := p.book.Count()
			for range 10 {
				p.next(d.below(n), d.below(n), d.below(n))
			}
			p.look()
		}
	}
}

// TestBooksDoNotKnowOfOneAnother: two of one rule and one strip, and others of other ones, number each by itself.
func TestBooksDoNotKnowOfOneAnother(t *testing.T) {
	d := dice(79)
	for _, r := range fewRules() {
		for _, a := range strips(4) {
			pairs := []*pair{newPair(t, r, a, 20), newPair(t, r, a, 20), newPair(t, r, a, 3), newPair(t, conway(), a, 20)}
			for range 120 {
				p := pairs[d.below(len(pairs))]
				p.act(&d)
			}
			for _, p := range pairs {
				p.look()
			}
		}
	}
}

// TestTheSameCallsAgain: what a book answers hangs on its calls alone.
func TestTheSameCallsAgain(t *testing.T) {
	for _, r := range fewRules() {
		for _, a := range strips(3) {
			one, other := newPair(t, r, a, 15), newPair(t, r, a, 15)
			d, e := dice(83), dice(83)
			for range 80 {
				one.act(&d)
			}
			for range 80 {
				other.act(&e)
			}
			if !reflect.DeepEqual(one.list.rows, other.list.rows) {
				t.Errorf("%v on %v: other rows", brief(r), a)
			}
		}
	}
}

// TestBooksBesideEachOther: books of one rule, each in a goroutine of its own.
func TestBooksBesideEachOther(t *testing.T) {
	for _, r := range fewRules() {
		for _, a := range strips(5) {
			var all sync.WaitGroup
			for worker := range 6 {
				all.Go(func() {
					d := dice(89 + worker%2)
					b, e := rows.New(r, a, 20)
					l := newList(r, a, 20)
					for range 40 {
						cells := d.cells(5, statesOf(r))
						id, f := b.Row(cells)
						want, code := l.row(cells)
						n := b.Count()
						above, here, below := d.below(n), d.below(n), d.below(n)
						next, g := b.Next(above, here, below)
						wantNext, codeNext := l.next(above, here, below)
						if e != api.OK || id != want || f != code || next != wantNext || g != codeNext {
							t.Errorf("%v on %v: another answer beside others", brief(r), a)
						}
					}
				})
			}
			all.Wait()
		}
	}
}
