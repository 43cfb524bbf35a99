package field

import (
	"iter"
	"slices"
)

// byteStore keeps a byte for each cell, row behind row.
type byteStore struct {
	size
	cells []uint8
}

func blankBytes(s size) *byteStore {
	return &byteStore{size: s, cells: make([]uint8, s.w*s.h)}
}

func (b *byteStore) packed() bool { return false }

// row is the part of the cells themselves, not a copy, that is a row.
func (b *byteStore) row(y int) []uint8 { return b.cells[y*b.w : (y+1)*b.w] }

func (b *byteStore) get(x, y int) uint8 { return b.row(y)[x] }

func (b *byteStore) set(x, y int, state uint8) { b.row(y)[x] = state }

func (b *byteStore) read(y int, into []uint8) { copy(into, b.row(y)) }

func (b *byteStore) lay(y int, line []uint8) { copy(b.row(y), line) }

func (b *byteStore) wipe() { clear(b.cells) }

func (b *byteStore) count(y int) int {
	n := 0
	for _, state := range b.row(y) {
		if state != 0 {
			n++
		}
	}
	return n
}

func (b *byteStore) span(y int) (first, last int, lives bool) {
	for x := range b.living(y) {
		if !lives {
			first = x
		}
		last, lives = x, true
	}
	return first, last, lives
}

func (b *byteStore) living(y int) iter.Seq2[int, uint8] {
	return func(yield func(int, uint8) bool) {
		for x, state := range b.row(y) {
			if state != 0 && !yield(x, state) {
				return
			}
		}
	}
}

func (b *byteStore) copied() store {
	return &byteStore{size: b.size, cells: slices.Clone(b.cells)}
}
