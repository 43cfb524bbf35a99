package words_test

import (
	"math"
	"testing"

	"vivarium/api"
	"vivarium/words"
)

// P2.1

func TestNew(t *testing.T) {
	for _, n := range farLengths() {
		is(t, "New", make([]bool, n))(words.New(n))
	}
	for _, n := range []int{-1, -64, math.MinInt, longest + 1, longest + 64, math.MaxInt} {
		refused(t, "New", api.ErrArg)(words.New(n))
	}
}

func TestNewIsNewEachTime(t *testing.T) {
	a, _ := words.New(70)
	a.Words[1] = 3
	is(t, "New", make([]bool, 70))(words.New(70))
}

func TestValid(t *testing.T) {
	eachSample(farLengths(), func(bits []bool) {
		if !words.Valid(rowOf(bits)) {
			t.Errorf("a row of %d bits may be", len(bits))
		}
	})
	for i, r := range badRows() {
		if words.Valid(r) {
			t.Errorf("row %d of N %d may not be", i, r.N)
		}
	}
}

func TestValidLooksAtEachBitBehindTheEnd(t *testing.T) {
	for _, n := range []int{1, 5, 63, 64, 65, 100, 127, 128} {
		for i := range (n + 63) / 64 * 64 {
			r := rowOf(make([]bool, n))
			r.Words[i/64] = 1 << (i % 64)
			if words.Valid(r) != (i < n) {
				t.Errorf("%d bits and a 1 at %d: %v", n, i, words.Valid(r))
			}
		}
	}
}

func TestValidTakesNoWordsAsNilOrNot(t *testing.T) {
	if !words.Valid(api.Row{}) || !words.Valid(api.Row{Words: []uint64{}}) {
		t.Error("the row of no bits may be")
	}
}

func TestOf(t *testing.T) {
	eachSample(farLengths(), func(bits []bool) {
		is(t, "Of", bits)(words.Of(bits))
	})
	is(t, "Of", nil)(words.Of(nil))
	for _, n := range []int{longest + 1, longest + 64, 2 * longest} {
		refused(t, "Of", api.ErrMany)(words.Of(make([]bool, n)))
	}
}

// P2.2

func TestGet(t *testing.T) {
	eachSample(lengths(), func(bits []bool) {
		r := rowOf(bits)
		for i, on := range bits {
			if words.Get(r, i) != on {
				t.Errorf("Get at %d of %d bits", i, r.N)
			}
		}
	})
	all := rowOf(made(longest, func(int) bool { return true }))
	for _, i := range []int{0, 63, 64, longest - 1} {
		if !words.Get(all, i) {
			t.Errorf("Get at %d of the longest row", i)
		}
	}
}

func TestGetOutside(t *testing.T) {
	for _, n := range farLengths() {
		r := rowOf(made(n, func(int) bool { return true }))
		for _, i := range []int{-1, -64, math.MinInt, n, n + 1, n + 64, math.MaxInt} {
			if words.Get(r, i) {
				t.Errorf("Get at %d of %d bits", i, n)
			}
		}
	}
}

func TestGetOfRowsThatMayNotBe(t *testing.T) {
	bad := []api.Row{{N: 3, Words: []uint64{15}}, {N: 3, Words: []uint64{7, 0}}, {N: 65, Words: []uint64{7}}, {N: -1, Words: []uint64{7}}}
	for _, r := range append(badRows(), bad...) {
		for _, i := range []int{-1, 0, 1, 2, 3, 64} {
			if words.Get(r, i) {
				t.Errorf("Get at %d of N %d, which may not be", i, r.N)
			}
		}
	}
}

func TestSet(t *testing.T) {
	eachSample([]int{1, 2, 63, 64, 65, 128, 130}, func(bits []bool) {
		for i := range bits {
			for _, on := range []bool{false, true} {
				want := append([]bool(nil), bits...)
				want[i] = on
				is(t, "Set", want)(words.Set(rowOf(bits), i, on))
			}
		}
	})
	for _, i := range []int{0, 65535, longest - 1} {
		is(t, "Set", made(longest, func(j int) bool { return j == i }))(words.Set(rowOf(make([]bool, longest)), i, true))
	}
}

func TestSetRefuses(t *testing.T) {
	for _, n := range farLengths() {
		for _, i := range []int{-1, math.MinInt, n, n + 64, math.MaxInt} {
			refused(t, "Set outside", api.ErrArg)(words.Set(rowOf(make([]bool, n)), i, true))
			refused(t, "Set outside", api.ErrArg)(words.Set(rowOf(make([]bool, n)), i, false))
		}
	}
	for _, r := range badRows() {
		for _, i := range []int{-1, 0, r.N, 9} {
			refused(t, "Set of a bad row", api.ErrRow)(words.Set(r, i, true))
		}
	}
}
