package words

import (
	"iter"
	"math/bits"

	"vivarium/api"
)

// Ones is how many bits are set.
func Ones(r api.Row) (int, api.Errno) {
	if !Valid(r) {
		return 0, api.ErrRow
	}
	ones := 0
	for _, w := range r.Words {
		ones += bits.OnesCount64(w)
	}
	return ones, api.OK
}

// Bits goes through the places of the bits that are set, rising.
func Bits(r api.Row) iter.Seq[int] {
	if !Valid(r) {
		return places(nil)
	}
	// The row may be changed ahead of the going or between two of them: what counts is what it was now.
	return places(copied(r).Words)
}

// places goes through the places of the bits that are set in the words as they are when it gets there.
func places(words []uint64) iter.Seq[int] {
	return func(yield func(int) bool) {
		for i, w := range words {
			for w != 0 {
				if !yield(i*wide + bits.TrailingZeros64(w)) {
					return
				}
				w &= w - 1 // without its lowest bit
			}
		}
	}
}

// Half adds two bits, place by place.
func Half(a, b uint64) (sum, carry uint64) {
	return a ^ b, a & b
}

// Full adds three bits, place by place.
func Full(a, b, c uint64) (sum, carry uint64) {
	sum, carry = Half(a, b)
	sum, c = Half(sum, c)
	carry |= c // never both: where the first two carry, their sum is 0
	return sum, carry
}

// Count is at each place how many of the rows have a bit there: its four digits in twos, the ones first.
func Count(rows ...api.Row) ([4]api.Row, api.Errno) {
	if len(rows) > maxCount {
		return [4]api.Row{}, api.ErrMany
	}
	if e := alike(rows...); e != api.OK {
		return [4]api.Row{}, e
	}
	n := 0
	if len(rows) > 0 {
		n = rows[0].N
	}
	count := [4]api.Row{blank(n), blank(n), blank(n), blank(n)}
	for i := range wordsFor(n) {
		for d, w := range sumAt(rows, i) {
			count[d].Words[i] = w
		}
	}
	return count, api.OK
}

// sumAt is the count of the rows' words at i. Fifteen rows fit four digits: nothing is carried out of the last one.
func sumAt(rows []api.Row, i int) [4]uint64 {
	var sum [4]uint64
	for _, r := range rows {
		carry := r.Words[i]
		for d := range sum {
			sum[d], carry = Half(sum[d], carry)
		}
	}
	return sum
}

// Is tells at which places a count is n.
func Is(c [4]api.Row, n int) (api.Row, api.Errno) {
	if e := alike(c[:]...); e != api.OK {
		return api.Row{}, e
	}
	if n < 0 || n > maxCount {
		return api.Row{}, api.ErrArg
	}
	is := blank(c[0].N)
	for i := range is.Words {
		w := ^uint64(0)
		for d, digit := range c {
			if n>>d&1 == 1 {
				w &= digit.Words[i]
			} else {
				w &^= digit.Words[i]
			}
		}
		is.Words[i] = w
	}
	cut(is) // n 0 is said behind the end too
	return is, api.OK
}
