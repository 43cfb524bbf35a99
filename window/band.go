package window

import (
	"iter"
	"slices"

	"vivarium/api"
)

// blank is a band of rows of states 0, cut out of one list; none of them has room to grow into the next.
func blank(w, at, rows int) api.Band {
	cells := make([]uint8, w*rows)
	b := api.Band{W: w, At: at, Rows: make([][]uint8, rows)}
	for i := range b.Rows {
		from, to := i*w, (i+1)*w
		b.Rows[i] = cells[from:to:to]
	}
	return b
}

// last is the Y of the last row, of a band that has rows.
func last(b api.Band) int { return b.At + len(b.Rows) - 1 }

// copied is the same band in memory of its own.
func copied(b api.Band) api.Band {
	own := blank(b.W, b.At, len(b.Rows))
	for i, row := range b.Rows {
		copy(own.Rows[i], row)
	}
	return own
}

// trimmed is the band without rows of states 0 alone at its beginning and end. Its rows are those of b: where b was handed in, they are not to be written to, and not to be answered.
func trimmed(b api.Band) api.Band {
	first := slices.IndexFunc(b.Rows, lives)
	if first < 0 {
		return api.Band{W: b.W}
	}
	end := len(b.Rows)
	for !lives(b.Rows[end-1]) {
		end--
	}
	return api.Band{W: b.W, At: b.At + first, Rows: b.Rows[first:end:end]}
}

// lives tells whether a row has a living cell.
func lives(row []uint8) bool {
	return slices.ContainsFunc(row, func(state uint8) bool { return state != 0 })
}

// three is a row between the one above and the one below.
type three [3][]uint8

// threes goes through the rows that may live one generation later, from the one above the band's first to the one below its last, numbered from 0 on: of each, what it and the two beside it are now.
func threes(b api.Band) iter.Seq2[int, three] {
	empty := make([]uint8, b.W)
	return func(yield func(int, three) bool) {
		beside := three{empty, empty, empty}
		for i := range len(b.Rows) + 2 {
			below := empty
			if i < len(b.Rows) {
				below = b.Rows[i]
			}
			beside = three{beside[1], beside[2], below}
			if !yield(i, beside) {
				return
			}
		}
	}
}
