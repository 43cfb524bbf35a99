package rows

import (
	"vivarium/api"
	"vivarium/window"
)

// mostLater is how many rows one generation later are remembered at a time.
const mostLater = 1 << 20

// three are the numbers of a row and of the two beside it.
type three struct{ above, here, below int }

// lacks tells whether a book is none.
func (b *Book) lacks() bool { return b == nil || b.numbers == nil }

// has tells whether a number is that of a row.
func (b *Book) has(id int) bool { return 0 <= id && id < len(b.texts) }

// cells is a copy of a row: whoever is handed it may write it over.
func (b *Book) cells(id int) []uint8 {
	cells := make([]uint8, b.strip.W)
	copy(cells, b.texts[id])
	return cells
}

// find is the number of a row that may be, which the book keeps from now on, if it has room.
func (b *Book) find(cells []uint8) (int, api.Errno) {
	if id, is := b.numbers[string(cells)]; is {
		return id, api.OK
	}
	if len(b.texts) >= b.most {
		return 0, api.ErrBudget
	}
	return b.keep(cells), api.OK
}

// keep gives the next number to a row that the book does not have.
func (b *Book) keep(cells []uint8) int {
	id, text := len(b.texts), string(cells)
	b.texts = append(b.texts, text)
	b.numbers[text] = id
	return id
}

// workOut is the number of the row one generation later.
func (b *Book) workOut(beside three) (int, api.Errno) {
	next, e := window.Line(b.rule, b.strip, b.cells(beside.above), b.cells(beside.here), b.cells(beside.below))
	if e != api.OK {
		return 0, e
	}
	return b.find(next)
}

// remember keeps what was worked out. Of the rows of a full book there are more threes than memory holds: then all is forgotten now and again.
func (b *Book) remember(beside three, id int) {
	if len(b.later) >= mostLater {
		clear(b.later)
	}
	b.later[beside] = id
}
