package words_test

import (
	"math"
	"slices"
	"testing"

	"vivarium/api"
	"vivarium/words"
)

const longest = api.MaxSide + 2

// The model of a row is the list of its bits; these build one from the other by the chapter's words alone, not by the package.

func rowOf(bits []bool) api.Row {
	r := api.Row{N: len(bits), Words: make([]uint64, (len(bits)+63)/64)}
	for i, on := range bits {
		if on {
			r.Words[i/64] += 1 << (i % 64)
		}
	}
	return r
}

func bitsOf(r api.Row) []bool {
	bits := make([]bool, r.N)
	for i := range bits {
		bits[i] = r.Words[i/64]/(1<<(i%64))%2 == 1
	}
	return bits
}

// told is the model of a text of 0 and 1, bit 0 first.
func told(text string) []bool {
	bits := make([]bool, len(text))
	for i := range bits {
		bits[i] = text[i] == '1'
	}
	return bits
}

func row(text string) api.Row { return rowOf(told(text)) }

// made is a list of bits, each by its place.
func made(n int, on func(i int) bool) []bool {
	bits := make([]bool, n)
	for i := range bits {
		bits[i] = on(i)
	}
	return bits
}

// mixed is a list of bits that looks like none other of the same length.
func mixed(n int, seed uint64) []bool {
	return made(n, func(int) bool {
		seed = seed*6364136223846793005 + 1442695040888963407
		return seed>>62 == 3 || seed>>61 == 1
	})
}

func lengths() []int {
	return []int{0, 1, 2, 3, 31, 62, 63, 64, 65, 66, 127, 128, 129, 191, 192, 193, 1000}
}

func farLengths() []int {
	return append(lengths(), longest-2, longest-1, longest)
}

// samples are lists of n bits: none set, all, every other, each end alone, about the words' ends, mixed ones.
func samples(n int) [][]bool {
	l := [][]bool{
		make([]bool, n),
		made(n, func(int) bool { return true }),
		made(n, func(i int) bool { return i%2 == 0 }),
		made(n, func(i int) bool { return i%2 == 1 }),
		made(n, func(i int) bool { return i == 0 }),
		made(n, func(i int) bool { return i == n-1 }),
		made(n, func(i int) bool { return i%64 == 63 }),
		made(n, func(i int) bool { return i%64 == 0 }),
	}
	for seed := range uint64(4) {
		l = append(l, mixed(n, seed+uint64(n)))
	}
	return l
}

// eachSample hands out every sample of every length.
func eachSample(lengths []int, do func(bits []bool)) {
	for _, n := range lengths {
		for _, bits := range samples(n) {
			do(bits)
		}
	}
}

func eachPair(do func(a, b []bool)) {
	for _, n := range lengths() {
		for _, a := range samples(n) {
			for _, b := range samples(n) {
				do(a, b)
			}
		}
	}
}

// badRows may not be, each for another reason or at another edge.
func badRows() []api.Row {
	over := make([]uint64, (longest+1+63)/64)
	long := make([]uint64, (longest+63)/64)
	long[len(long)-1] = 4
	return []api.Row{
		{N: -1}, {N: -63}, {N: -64}, {N: -65}, {N: math.MinInt}, {N: math.MaxInt}, {N: math.MaxInt - 62},
		{N: -1, Words: []uint64{0}},
		{N: 0, Words: []uint64{0}},
		{N: 1}, {N: 3, Words: []uint64{8}}, {N: 3, Words: []uint64{5, 0}}, {N: 1, Words: []uint64{2}},
		{N: 63, Words: []uint64{1 << 63}},
		{N: 64}, {N: 64, Words: []uint64{0, 0}},
		{N: 65, Words: []uint64{0}}, {N: 65, Words: []uint64{0, 2}}, {N: 65, Words: []uint64{0, 0, 0}},
		{N: 127, Words: []uint64{0, 1 << 63}}, {N: 128, Words: []uint64{0}},
		{N: longest + 1, Words: over}, {N: longest, Words: over[:len(over)-1]}, {N: longest, Words: long},
		{N: longest + 64, Words: make([]uint64, (longest+64+63)/64)},
	}
}

// is looks whether a call answered this row, one that may be.
func is(t *testing.T, what string, want []bool) func(api.Row, api.Errno) {
	t.Helper()
	return func(r api.Row, e api.Errno) {
		t.Helper()
		if e != api.OK || !words.Valid(r) || r.N != len(want) || !slices.Equal(r.Words, rowOf(want).Words) {
			t.Errorf("%s of %d bits: N %d, %d words, error %d, not as it should be", what, len(want), r.N, len(r.Words), e)
		}
	}
}

// refused looks whether a call answered this error and nothing beside it.
func refused(t *testing.T, what string, want api.Errno) func(api.Row, api.Errno) {
	t.Helper()
	return func(r api.Row, e api.Errno) {
		t.Helper()
		if e != want || r.N != 0 || r.Words != nil {
			t.Errorf("%s: N %d, words %v, error %d, not %d alone", what, r.N, r.Words, e, want)
		}
	}
}
