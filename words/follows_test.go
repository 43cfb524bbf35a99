package words_test

import (
	"slices"
	"testing"

	"vivarium/api"
	"vivarium/words"
)

// sure is a row that must have been answered.
func sure(t *testing.T) func(api.Row, api.Errno) api.Row {
	return func(r api.Row, e api.Errno) api.Row {
		t.Helper()
		if e != api.OK {
			t.Fatalf("error %d", e)
		}
		return r
	}
}

func same(a, b api.Row) bool {
	return a.N == b.N && slices.Equal(a.Words, b.Words)
}

// P2.8

func TestNotOfAndIsOrOfNots(t *testing.T) {
	ok := sure(t)
	eachPair(func(a, b []bool) {
		r, s := rowOf(a), rowOf(b)
		left := ok(words.Not(ok(words.And(r, s))))
		right := ok(words.Or(ok(words.Not(r)), ok(words.Not(s))))
		if !same(left, right) {
			t.Errorf("%d bits: %v, %v", len(a), left, right)
		}
	})
}

func TestXorIsOrWithoutAnd(t *testing.T) {
	ok := sure(t)
	eachPair(func(a, b []bool) {
		r, s := rowOf(a), rowOf(b)
		without := ok(words.And(ok(words.Or(r, s)), ok(words.Not(ok(words.And(r, s))))))
		if x := ok(words.Xor(r, s)); !same(x, without) {
			t.Errorf("%d bits: %v, %v", len(a), x, without)
		}
	})
}

func TestTwiceIsTheRowItself(t *testing.T) {
	ok := sure(t)
	eachSample(farLengths(), func(bits []bool) {
		r := rowOf(bits)
		if !same(r, ok(words.Turned(ok(words.Turned(r))))) || !same(r, ok(words.Not(ok(words.Not(r))))) {
			t.Errorf("%d bits", len(bits))
		}
	})
}

func TestDownOfUpIsTheRowItself(t *testing.T) {
	eachSample(farLengths(), func(bits []bool) {
		for _, in := range []bool{false, true} {
			r := rowOf(bits)
			up, out, e := words.Up(r, in)
			back, again, f := words.Down(up, out)
			if e != api.OK || f != api.OK || !same(back, r) || again != in {
				t.Errorf("%d bits, in %v: %v", len(bits), in, again)
			}
		}
	})
}

func TestTurnedOfUpIsDownOfTurned(t *testing.T) {
	ok := sure(t)
	eachSample(farLengths(), func(bits []bool) {
		for _, in := range []bool{false, true} {
			up, out, e := words.Up(rowOf(bits), in)
			down, other, f := words.Down(ok(words.Turned(rowOf(bits))), in)
			if e != api.OK || f != api.OK || out != other || !same(ok(words.Turned(up)), down) {
				t.Errorf("%d bits, in %v: %v, %v", len(bits), in, out, other)
			}
		}
	})
}

// P2.9

func TestOnesOfXorAndAnd(t *testing.T) {
	ok := sure(t)
	ones := func(r api.Row) int {
		n, e := words.Ones(r)
		if e != api.OK {
			t.Fatalf("error %d", e)
		}
		return n
	}
	eachPair(func(a, b []bool) {
		r, s := rowOf(a), rowOf(b)
		if ones(ok(words.Xor(r, s)))+2*ones(ok(words.And(r, s))) != ones(r)+ones(s) {
			t.Errorf("%d bits", len(a))
		}
	})
}

func TestBitsTellOnesPlaces(t *testing.T) {
	eachSample(farLengths(), func(bits []bool) {
		r := rowOf(bits)
		n, last := 0, -1
		for i := range words.Bits(r) {
			if !words.Get(r, i) || i <= last {
				t.Errorf("%d bits: place %d after %d", len(bits), i, last)
			}
			n, last = n+1, i
		}
		if ones, _ := words.Ones(r); n != ones {
			t.Errorf("%d bits: %d places, %d ones", len(bits), n, ones)
		}
	})
}

func TestEachPlaceOfACountSaysOneNumber(t *testing.T) {
	ok := sure(t)
	for _, n := range []int{1, 64, 65, 200} {
		c := [4]api.Row{rowOf(mixed(n, 1)), rowOf(mixed(n, 2)), rowOf(mixed(n, 3)), rowOf(mixed(n, 4))}
		times := make([]int, n)
		for number := range 16 {
			for _, i := range placesOf(bitsOf(ok(words.Is(c, number)))) {
				times[i]++
			}
		}
		for i, k := range times {
			if k != 1 {
				t.Errorf("%d bits: place %d is said %d times", n, i, k)
			}
		}
	}
}
