package rows_test

import (
	"reflect"
	"slices"
	"testing"

	"vivarium/api"
	"vivarium/rows"
	"vivarium/rule"
)

// The model: a list of rows, gone through from its beginning on; one generation as the page says it, without window and hood. What a rule of births and stays says is counted anew; what a table says is what rule.Next says of it.

func at(x, y int) api.Point { return api.Point{X: x, Y: y} }

// beside are the rows above, here and below.
type beside [3][]uint8

// stateAt is what a place of the three rows, or one left or right of them, is; the row here has the Y 0.
func (b beside) stateAt(t api.Topo, x, y int) uint8 {
	if t.Kind == api.Torus {
		x = (x%t.W + t.W) % t.W
	}
	if x < 0 || x >= t.W {
		return 0 // on a Plane nothing lives beyond the ends
	}
	return b[1+y][x]
}

// modelLine is the row here one generation later.
func modelLine(r api.Rule, t api.Topo, b beside) []uint8 {
	next := make([]uint8, t.W)
	for x := range next {
		var around []uint8
		for _, d := range offsets[hoodOf(r)] {
			around = append(around, b.stateAt(t, x+d.X, d.Y))
		}
		next[x] = modelNext(r, b.stateAt(t, x, 0), around)
	}
	return next
}

// list is a book's model.
type list struct {
	rule  api.Rule
	strip api.Topo
	most  int
	rows  [][]uint8
}

func newList(r api.Rule, t api.Topo, most int) *list {
	return &list{rule: r, strip: t, most: most, rows: [][]uint8{make([]uint8, t.W)}}
}

func (l *list) row(cells []uint8) (int, api.Errno) {
	if len(cells) != l.strip.W {
		return 0, api.ErrBand
	}
	for _, state := range cells {
		if int(state) >= statesOf(l.rule) {
			return 0, api.ErrState
		}
	}
	for id, row := range l.rows {
		if slices.Equal(row, cells) {
			return id, api.OK
		}
	}
	if len(l.rows) == l.most {
		return 0, api.ErrBudget
	}
	l.rows = append(l.rows, slices.Clone(cells))
	return len(l.rows) - 1, api.OK
}

func (l *list) has(id int) bool { return id >= 0 && id <= len(l.rows)-1 }

func (l *list) cells(id int) ([]uint8, api.Errno) {
	if !l.has(id) {
		return nil, api.ErrNoRow
	}
	return l.rows[id], api.OK
}

func (l *list) next(above, here, below int) (int, api.Errno) {
	for _, id := range []int{above, here, below} {
		if !l.has(id) {
			return 0, api.ErrNoRow
		}
	}
	return l.row(modelLine(l.rule, l.strip, beside{l.rows[above], l.rows[here], l.rows[below]}))
}

// pair is a book beside its model: each call goes to both, and they must answer the same.
type pair struct {
	test *testing.T
	book *rows.Book
	list *list
}

func newPair(test *testing.T, r api.Rule, t api.Topo, most int) *pair {
	test.Helper()
	p := &pair{test, mustNew(test, r, t, most), newList(r, t, most)}
	p.count()
	return p
}

// count looks whether the book keeps as many rows as it must.
func (p *pair) count() {
	p.test.Helper()
	if n := p.book.Count(); n != len(p.list.rows) {
		p.test.Fatalf("%v on %v, at most %d: Count: %d, not %d", brief(p.list.rule), p.list.strip, p.list.most, n, len(p.list.rows))
	}
}

func (p *pair) row(cells []uint8) (int, api.Errno) {
	p.test.Helper()
	was := slices.Clone(cells)
	id, e := p.book.Row(cells)
	want, code := p.list.row(was)
	if id != want || e != code {
		p.test.Fatalf("%v on %v, at most %d: Row(%v): %d, %d, not %d, %d", brief(p.list.rule), p.list.strip, p.list.most, short(was), id, e, want, code)
	}
	if !slices.Equal(cells, was) {
		p.test.Fatalf("Row(%v): what was handed in is another", short(was))
	}
	p.count()
	return id, e
}

func (p *pair) cells(id int) ([]uint8, api.Errno) {
	p.test.Helper()
	cells, e := p.book.Cells(id)
	want, code := p.list.cells(id)
	if e != code || !slices.Equal(cells, want) || e != api.OK && cells != nil {
		p.test.Fatalf("%v on %v, at most %d: Cells(%d): %v, %d, not %v, %d", brief(p.list.rule), p.list.strip, p.list.most, id, short(cells), e, short(want), code)
	}
	p.count()
	return cells, e
}

func (p *pair) next(above, here, below int) (int, api.Errno) {
	p.test.Helper()
	id, e := p.book.Next(above, here, below)
	want, code := p.list.next(above, here, below)
	if id != want || e != code {
		p.test.Fatalf("%v on %v, at most %d: Next(%d, %d, %d): %d, %d, not %d, %d", brief(p.list.rule), p.list.strip, p.list.most, above, here, below, id, e, want, code)
	}
	p.count()
	return id, e
}

// look goes through all numbers, and the two beyond their ends.
func (p *pair) look() {
	p.test.Helper()
	for id := -1; id <= len(p.list.rows); id++ {
		p.cells(id)
	}
}

// fill keeps rows drawn at random, till there are so many, or no more come.
func (p *pair) fill(d *dice, count int) {
	p.test.Helper()
	for range 20 * count {
		if len(p.list.rows) < count {
			p.row(d.cells(p.list.strip.W, statesOf(p.list.rule)))
		}
	}
}

// mustNew is a book that there must be.
func mustNew(test *testing.T, r api.Rule, t api.Topo, most int) *rows.Book {
	test.Helper()
	was := copied(r)
	b, e := rows.New(r, t, most)
	if e != api.OK || b == nil {
		test.Fatalf("New(%v, %v, %d): %d", brief(r), t, most, e)
	}
	if !reflect.DeepEqual(r, was) {
		test.Fatalf("New(%v, %v, %d): the rule that was handed in is another", brief(was), t, most)
	}
	return b
}

// offsets are chapter 7's.
var offsets = map[uint8][]api.Point{
	api.Moore:   {at(0, -1), at(1, -1), at(1, 0), at(1, 1), at(0, 1), at(-1, 1), at(-1, 0), at(-1, -1)},
	api.Neumann: {at(0, -1), at(1, 0), at(0, 1), at(-1, 0)},
	api.Hex:     {at(0, -1), at(1, 0), at(1, 1), at(0, 1), at(-1, 0), at(-1, -1)},
}

// statesOf and hoodOf are a rule's, by its fields.
func statesOf(r api.Rule) int {
	if r.Kind == api.KindTable {
		return r.Table.States
	}
	return r.Gens.States
}

func hoodOf(r api.Rule) uint8 {
	if r.Kind == api.KindTable {
		return r.Table.Hood
	}
	return r.Gens.Life.Hood
}

// modelNext is what a rule says that may be.
func modelNext(r api.Rule, centre uint8, around []uint8) uint8 {
	if r.Kind == api.KindTable {
		next, e := rule.Next(r, centre, around)
		if e != api.OK {
			panic(e)
		}
		return next
	}
	ones := 0
	for _, state := range around {
		if state == 1 {
			ones++
		}
	}
	switch {
	case centre == 0:
		return uint8(r.Gens.Life.Born >> ones & 1)
	case centre == 1 && r.Gens.Life.Stay>>ones&1 == 1:
		return 1
	}
	return uint8((int(centre) + 1) % r.Gens.States)
}
