package rule

import (
	"iter"

	"vivarium/api"
)

// canGoThrough tells whether there are at most MaxAsk rows of so many states. It leaves off at the first product that is more: the last one may not fit an int.
func canGoThrough(states, length int) bool {
	count := 1
	for range length {
		count *= states
		if count > api.MaxAsk {
			return false
		}
	}
	return true
}

// rowsOf goes through all rows of so many states, as numbers are counted up. It hands out the same memory again and again.
func rowsOf(states, length int) iter.Seq[[]uint8] {
	return func(yield func([]uint8) bool) {
		row := make([]uint8, length)
		for more := true; more; more = countUp(row, states) {
			if !yield(row) {
				return
			}
		}
	}
}

// countUp makes a row the next one; false, if it was the last.
func countUp(row []uint8, states int) bool {
	for i := len(row) - 1; i >= 0; i-- {
		if int(row[i])+1 < states {
			row[i]++
			return true
		}
		row[i] = 0
	}
	return false
}

// number tells which row it is, from 0 on, of those that rowsOf goes through.
func number(row []uint8, states int) int {
	n := 0
	for _, state := range row {
		n = n*states + int(state)
	}
	return n
}

// moved is the list with each element at the place to which it comes.
func moved[T any](list []T, to []int) []T {
	out := make([]T, len(list))
	for i, x := range list {
		out[to[i]] = x
	}
	return out
}
