package strip

import (
	"vivarium/api"
	"vivarium/rows"
)

// three are a row and the two beside it; a byte is a state.
type three [3]string

// press works out rows one generation later, by a book of rows. A book forgets nothing: when it is full another one is begun.
type press struct {
	rule  api.Rule
	strip api.Topo
	book  *rows.Book
}

// bookCells is how many cells a book has room for, so that a wide strip's does not fill the memory: at most MaxBook rows, and at the greatest width still many more than one asking needs.
const bookCells = 1 << 24

// begin takes a new book.
func (p *press) begin() {
	p.book, _ = rows.New(p.rule, p.strip, min(api.MaxBook, bookCells/p.strip.W))
}

// next is the row one generation later.
func (p *press) next(beside three) string {
	cells, e := p.ask(beside)
	if e != api.OK {
		p.begin()
		cells, _ = p.ask(beside) // a new book has room
	}
	return string(cells)
}

// ask is what the book answers; ErrBudget: it is full. ErrNil: there is none yet.
func (p *press) ask(beside three) ([]uint8, api.Errno) {
	var ids [3]int
	for i, row := range beside {
		id, e := p.book.Row([]uint8(row))
		if e != api.OK {
			return nil, e
		}
		ids[i] = id
	}
	id, e := p.book.Next(ids[0], ids[1], ids[2])
	if e != api.OK {
		return nil, e
	}
	return p.book.Cells(id)
}
