package words_test

import (
	"math"
	"slices"
	"testing"

	"vivarium/api"
	"vivarium/words"
)

// P2.5

func placesOf(bits []bool) []int {
	var l []int
	for i, on := range bits {
		if on {
			l = append(l, i)
		}
	}
	return l
}

func TestOnes(t *testing.T) {
	eachSample(farLengths(), func(bits []bool) {
		if n, e := words.Ones(rowOf(bits)); n != len(placesOf(bits)) || e != api.OK {
			t.Errorf("Ones of %d bits: %d, %d", len(bits), n, e)
		}
	})
	for _, r := range append(badRows(), api.Row{N: 3, Words: []uint64{15}}) {
		if n, e := words.Ones(r); n != 0 || e != api.ErrRow {
			t.Errorf("Ones of N %d, which may not be: %d, %d", r.N, n, e)
		}
	}
}

func TestBits(t *testing.T) {
	eachSample(farLengths(), func(bits []bool) {
		if l := slices.Collect(words.Bits(rowOf(bits))); !slices.Equal(l, placesOf(bits)) {
			t.Errorf("Bits of %d bits: %d places, not as they are", len(bits), len(l))
		}
	})
}

func TestBitsOfRowsThatMayNotBe(t *testing.T) {
	for _, r := range append(badRows(), api.Row{N: 3, Words: []uint64{15}}, api.Row{N: 65, Words: []uint64{1}}) {
		places := words.Bits(r)
		if places == nil {
			t.Fatalf("Bits of N %d is nil", r.N)
		}
		for i := range places {
			t.Errorf("Bits of N %d, which may not be: %d", r.N, i)
		}
	}
}

func TestBitsMayBeLeftAndGoneThroughAgain(t *testing.T) {
	bits := mixed(200, 7)
	want := placesOf(bits)
	places := words.Bits(rowOf(bits))
	for stop := range want {
		var got []int
		for i := range places {
			got = append(got, i)
			if len(got) == stop+1 {
				break
			}
		}
		if !slices.Equal(got, want[:stop+1]) {
			t.Fatalf("left at step %d: %v, not %v", stop, got, want[:stop+1])
		}
	}
	if got := slices.Collect(places); !slices.Equal(got, want) {
		t.Errorf("gone through again: %v", got)
	}
	for i := range places {
		if got := slices.Collect(places); !slices.Equal(got, want) {
			t.Errorf("gone through inside of itself at %d: %v", i, got)
		}
	}
}

func TestBitsGoThroughWhatWasThere(t *testing.T) {
	bits := mixed(130, 3)
	r := rowOf(bits)
	places := words.Bits(r)
	clear(r.Words)
	if got := slices.Collect(places); !slices.Equal(got, placesOf(bits)) {
		t.Errorf("changed ahead of the going: %v", got)
	}
	r = rowOf(bits)
	var got []int
	for i := range words.Bits(r) {
		got = append(got, i)
		r.Words[0], r.Words[1], r.Words[2] = ^r.Words[0], ^r.Words[1], 0
	}
	if !slices.Equal(got, placesOf(bits)) {
		t.Errorf("changed on the way: %v", got)
	}
}

// P2.6 and P2.10

func TestHalfAndFullAtEachPlace(t *testing.T) {
	for place := range 64 {
		for abc := range uint64(8) {
			a, b, c := abc&1, abc>>1&1, abc>>2
			sum, carry := words.Half(a<<place, b<<place)
			if sum != (a+b)%2<<place || carry != (a+b)/2<<place {
				t.Errorf("Half(%d, %d) at %d: %x, %x", a, b, place, sum, carry)
			}
			sum, carry = words.Full(a<<place, b<<place, c<<place)
			if sum != (a+b+c)%2<<place || carry != (a+b+c)/2<<place {
				t.Errorf("Full(%d, %d, %d) at %d: %x, %x", a, b, c, place, sum, carry)
			}
		}
	}
}

func TestHalfAndFullOfWords(t *testing.T) {
	list := []uint64{0, 1, 1 << 63, math.MaxUint64, 0xaaaaaaaaaaaaaaaa, 0xcccccccccccccccc, 0xf0f0f0f0f0f0f0f0, 0x123456789abcdef0}
	for _, a := range list {
		for _, b := range list {
			sum, carry := words.Half(a, b)
			if !addsUp([]uint64{a, b}, sum, carry) {
				t.Errorf("Half(%x, %x): %x, %x", a, b, sum, carry)
			}
			for _, c := range list {
				sum, carry := words.Full(a, b, c)
				if !addsUp([]uint64{a, b, c}, sum, carry) {
					t.Errorf("Full(%x, %x, %x): %x, %x", a, b, c, sum, carry)
				}
			}
		}
	}
}

// addsUp: at each place the arguments' sum is the sum and twice the carry.
func addsUp(list []uint64, sum, carry uint64) bool {
	for place := range 64 {
		n := uint64(0)
		for _, w := range list {
			n += w >> place & 1
		}
		if n != sum>>place&1+carry>>place&1*2 {
			return false
		}
	}
	return true
}

// P2.7

// numbers is what a count says at each place.
func numbers(c [4]api.Row) []int {
	l := make([]int, c[0].N)
	for digit, r := range c {
		for i, on := range bitsOf(r) {
			if on {
				l[i] += 1 << digit
			}
		}
	}
	return l
}

func isCount(t *testing.T, want []int, c [4]api.Row, e api.Errno) {
	t.Helper()
	for _, r := range c {
		if e != api.OK || !words.Valid(r) || r.N != len(want) {
			t.Fatalf("Count: N %d, error %d", r.N, e)
		}
	}
	if got := numbers(c); !slices.Equal(got, want) {
		t.Errorf("Count: %v, not %v", got, want)
	}
}

func noCount(t *testing.T, what string, want api.Errno, c [4]api.Row, e api.Errno) {
	t.Helper()
	if e != want {
		t.Errorf("%s: error %d, not %d", what, e, want)
	}
	for _, r := range c {
		if r.N != 0 || r.Words != nil {
			t.Errorf("%s: a row beside the error", what)
		}
	}
}

// blanks is a list of rows without a 1.
func blanks(rows, n int) []api.Row {
	l := make([]api.Row, rows)
	for i := range l {
		l[i] = rowOf(make([]bool, n))
	}
	return l
}

func TestCount(t *testing.T) {
	for _, n := range []int{0, 1, 3, 63, 64, 65, 130, longest} {
		for k := range 16 {
			rows, want := make([]api.Row, k), make([]int, n)
			for j := range rows {
				bits := made(n, func(i int) bool { return (i*7+j*5+i*j/3)%16 < i%17 })
				rows[j] = rowOf(bits)
				for _, i := range placesOf(bits) {
					want[i]++
				}
			}
			if k == 0 {
				want = nil
			}
			c, e := words.Count(rows...)
			isCount(t, want, c, e)
		}
	}
}

func TestCountSaysEachNumber(t *testing.T) {
	rows := make([]api.Row, 15)
	want := make([]int, 80)
	for j := range rows {
		rows[j] = rowOf(made(80, func(i int) bool { return j < i%16 }))
	}
	for i := range want {
		want[i] = i % 16
	}
	c, e := words.Count(rows...)
	isCount(t, want, c, e)
}

func TestCountTakesOneRowMoreThanOnce(t *testing.T) {
	r := row("0110")
	c, e := words.Count(r, r, r, r, r, r, r, r, r)
	isCount(t, []int{0, 9, 9, 0}, c, e)
}

func TestCountRefuses(t *testing.T) {
	for _, n := range []int{16, 17, 100} {
		c, e := words.Count(blanks(n, 3)...)
		noCount(t, "too many", api.ErrMany, c, e)
		c, e = words.Count(append(blanks(n-1, 3), badRows()[0])...)
		noCount(t, "too many, one bad", api.ErrMany, c, e)
		c, e = words.Count(append(blanks(n-1, 3), row("01"))...)
		noCount(t, "too many, one unlike", api.ErrMany, c, e)
	}
	for at := range 15 {
		for _, bad := range badRows() {
			rows := blanks(15, 3)
			rows[at] = bad
			c, e := words.Count(rows...)
			noCount(t, "one bad", api.ErrRow, c, e)
			rows[(at+1)%15] = row("01")
			c, e = words.Count(rows...)
			noCount(t, "one bad, one unlike", api.ErrRow, c, e)
		}
		for _, n := range []int{0, 2, 4, 64, 65} {
			rows := blanks(15, 3)
			rows[at] = rowOf(make([]bool, n))
			c, e := words.Count(rows...)
			noCount(t, "one unlike", api.ErrUnlike, c, e)
		}
	}
	c, e := words.Count(badRows()[0])
	noCount(t, "one row, bad", api.ErrRow, c, e)
}

// saying is a count that says these numbers.
func saying(numbers []int) [4]api.Row {
	var c [4]api.Row
	for digit := range c {
		c[digit] = rowOf(made(len(numbers), func(i int) bool { return numbers[i]>>digit%2 == 1 }))
	}
	return c
}

func TestIs(t *testing.T) {
	for _, size := range []int{0, 1, 5, 16, 63, 64, 65, 200, longest} {
		says := make([]int, size)
		for i := range says {
			says[i] = (i*11 + i/16) % 16
		}
		for n := range 16 {
			is(t, "Is", made(size, func(i int) bool { return says[i] == n }))(words.Is(saying(says), n))
		}
	}
}

func TestIsRefuses(t *testing.T) {
	for at := range 4 {
		for _, n := range []int{-1, 0, 15, 16} {
			for _, bad := range badRows() {
				c := saying([]int{1, 2, 3})
				c[at] = bad
				refused(t, "one bad", api.ErrRow)(words.Is(c, n))
				c[(at+1)%4] = row("01")
				refused(t, "one bad, one unlike", api.ErrRow)(words.Is(c, n))
			}
			for _, size := range []int{0, 2, 4, 64, 65} {
				c := saying([]int{1, 2, 3})
				c[at] = rowOf(make([]bool, size))
				refused(t, "one unlike", api.ErrUnlike)(words.Is(c, n))
			}
		}
	}
	for _, n := range []int{-1, -16, math.MinInt, 16, 17, 31, math.MaxInt} {
		refused(t, "no number of a count", api.ErrArg)(words.Is(saying([]int{1, 2, 3}), n))
		refused(t, "no number of a count of no bits", api.ErrArg)(words.Is([4]api.Row{}, n))
	}
}
