package field

import (
	"iter"
	"math/bits"
	"slices"

	"vivarium/api"
	"vivarium/words"
)

const wide = 64 // bits of a word

// bitStore keeps a row of bits for each row of cells.
type bitStore struct {
	size
	rows []api.Row
}

func blankBits(s size) *bitStore {
	b := &bitStore{size: s, rows: make([]api.Row, s.h)}
	for y := range b.rows {
		b.rows[y], _ = words.New(s.w)
	}
	return b
}

func (b *bitStore) packed() bool { return true }

func (b *bitStore) get(x, y int) uint8 {
	if words.Get(b.rows[y], x) {
		return 1
	}
	return 0
}

// set writes into the row where it stands: another row for each cell (as words.Set answers) would be a whole row's work.
func (b *bitStore) set(x, y int, state uint8) {
	word := &b.rows[y].Words[x/wide]
	*word &^= 1 << (x % wide)
	*word |= uint64(state) << (x % wide)
}

func (b *bitStore) read(y int, into []uint8) {
	row := b.rows[y].Words
	for x := range into {
		into[x] = uint8(row[x/wide] >> (x % wide) & 1)
	}
}

func (b *bitStore) lay(y int, line []uint8) {
	row := b.rows[y].Words
	clear(row)
	for x, state := range line {
		row[x/wide] |= uint64(state) << (x % wide)
	}
}

func (b *bitStore) wipe() {
	for _, row := range b.rows {
		clear(row.Words)
	}
}

func (b *bitStore) count(y int) int {
	n, _ := words.Ones(b.rows[y])
	return n
}

func (b *bitStore) span(y int) (first, last int, lives bool) {
	for i, word := range b.rows[y].Words {
		if word == 0 {
			continue
		}
		if !lives {
			first = i*wide + bits.TrailingZeros64(word)
		}
		last, lives = i*wide+bits.Len64(word)-1, true
	}
	return first, last, lives
}

func (b *bitStore) living(y int) iter.Seq2[int, uint8] {
	return func(yield func(int, uint8) bool) {
		for x := range words.Bits(b.rows[y]) {
			if !yield(x, 1) {
				return
			}
		}
	}
}

func (b *bitStore) copied() store {
	to := &bitStore{size: b.size, rows: slices.Clone(b.rows)}
	for y, row := range b.rows {
		to.rows[y].Words = slices.Clone(row.Words)
	}
	return to
}
