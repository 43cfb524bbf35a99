package field

import (
	"iter"

	"vivarium/api"
)

// store is where a field's cells are: as bytes or as bits. Places, rows and states that it is handed have been looked at.
type store interface {
	measure() size
	fitsBits() bool
	hasPlace(x, y int) bool
	hasRow(y int) bool
	hasState(state uint8) bool
	checkLine(line []uint8) api.Errno

	packed() bool
	get(x, y int) uint8
	set(x, y int, state uint8)
	read(y int, into []uint8)
	lay(y int, line []uint8)
	wipe()
	count(y int) int                          // how many cells of a row live
	span(y int) (first, last int, lives bool) // the outermost columns of a row in which a cell lives
	living(y int) iter.Seq2[int, uint8]       // the columns of a row in which a cell lives, with its state
	copied() store
}

// size is what all stores have in common: how many columns and rows of how many states there are.
type size struct {
	w, h, states int
}

// check tells why there can't be a field of this size.
func (s size) check(packed bool) api.Errno {
	if !isSide(s.w) || !isSide(s.h) || s.states < 2 || s.states > api.MaxStates {
		return api.ErrArg
	}
	if packed && !s.fitsBits() {
		return api.ErrPack
	}
	if s.w*s.h > api.MaxCells {
		return api.ErrBudget
	}
	return api.OK
}

func isSide(n int) bool { return n >= 1 && n <= api.MaxSide }

func (s size) measure() size { return s }

func (s size) fitsBits() bool { return s.states == 2 }

func (s size) hasPlace(x, y int) bool { return x >= 0 && x < s.w && s.hasRow(y) }

func (s size) hasRow(y int) bool { return y >= 0 && y < s.h }

func (s size) hasState(state uint8) bool { return int(state) < s.states }

// checkLine tells why a line can't be one of the rows.
func (s size) checkLine(line []uint8) api.Errno {
	if len(line) != s.w {
		return api.ErrLength
	}
	for _, state := range line {
		if !s.hasState(state) {
			return api.ErrState
		}
	}
	return api.OK
}

// blank is a store all of whose cells are 0.
func blank(s size, packed bool) store {
	if packed {
		return blankBits(s)
	}
	return blankBytes(s)
}

// moved is a store as bits or as bytes with the cells of another one.
func moved(from store, packed bool) store {
	s := from.measure()
	to := blank(s, packed)
	line := make([]uint8, s.w)
	for y := range s.h {
		from.read(y, line)
		to.lay(y, line)
	}
	return to
}
