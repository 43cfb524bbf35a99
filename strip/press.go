package strip

import (
	"vivarium/api"
	"vivarium/rows"
)

// three are a row and the two beside it; a byte is a state.
type three [3]string

// press works out rows one generation later, by a book of rows. A book forgets nothing: when it is full another one is begun.
type press struct {
	rule  api.Rule
	strip api.Topo
	most  int // rows of a book
	book  *rows.Book
}

// A book has room for three rows, the empty one and what comes of them, and for no more cells than a few megabytes hold.
const (
	leastBook = 5
	bookCells = 1 << 24
)

// newPress is that of a sea of so many nodes.
func newPress(r api.Rule, t api.Topo, nodes int) press {
	p := press{rule: r, strip: t, most: max(leastBook, min(nodes, bookCells/t.W, api.MaxBook))}
	p.begin()
	return p
}

func (p *press) begin() { p.book, _ = rows.New(p.rule, p.strip, p.most) }

// next is the row one generation later.
func (p *press) next(beside three) string {
	cells, e := p.ask(beside)
	if e != api.OK {
		p.begin()
		cells, _ = p.ask(beside)
	}
	return string(cells)
}

// ask is what the book answers; ErrBudget: it is full.
func (p *press) ask(beside three) ([]uint8, api.Errno) {
	var ids [3]int
	for i, row := range beside {
		id, e := p.book.Row([]uint8(row))
		if e != api.OK {
			return nil, e
		}
		ids[i] = id
	}
	id, e := p.book.Next(ids[0], ids[1], ids[2])
	if e != api.OK {
		return nil, e
	}
	return p.book.Cells(id)
}
