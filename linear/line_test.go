package linear_test

import (
	"cmp"
	"fmt"
	"math"
	"math/bits"
	"slices"
	"testing"

	"vivarium/api"
	"vivarium/linear"
)

// P17.5

func lineIs(t *testing.T, offsets []int, n, at int, want bool) {
	t.Helper()
	if is, e := linear.Line(offsets, n, at); is != want || e != api.OK {
		t.Errorf("Line(%v, %d, %d): %v, %d, not %v", short(offsets), n, at, is, e, want)
	}
}

// numbers are those from low to high.
func numbers(low, high int) []int {
	var list []int
	for i := low; i <= high; i++ {
		list = append(list, i)
	}
	return list
}

func TestLineErrors(t *testing.T) {
	for _, c := range []struct {
		offsets []int
		e       api.Errno
	}{
		{nil, api.OK},
		{[]int{}, api.OK},
		{[]int{64, -64}, api.OK},
		{numbers(-64, -1), api.OK},
		{numbers(1, 64), api.OK},
		{numbers(0, 64), api.ErrMany},
		{make([]int, 65), api.ErrMany},
		{numbers(64, 200), api.ErrMany},
		{[]int{65}, api.ErrFar},
		{[]int{-65}, api.ErrFar},
		{[]int{0, math.MinInt}, api.ErrFar},
		{[]int{math.MaxInt}, api.ErrFar},
		{[]int{65, 65}, api.ErrFar},
		{[]int{1, 1, -65}, api.ErrFar},
		{[]int{1, 1}, api.ErrPoly},
		{[]int{64, -64, 3, -64}, api.ErrPoly},
		{make([]int, 64), api.ErrPoly},
		{append(numbers(1, 63), 1), api.ErrPoly},
	} {
		for _, n := range gensCases() {
			for _, place := range []int{0, 1, -64, math.MinInt, math.MaxInt} {
				is, e := linear.Line(c.offsets, n.n, place)
				if want := cmp.Or(c.e, n.e); e != want || want != api.OK && is {
					t.Errorf("Line(%v, %d, %d): %v, %d, not %d", short(c.offsets), n.n, place, is, e, want)
				}
			}
		}
	}
}

// TestLineOfAllNearOffsets: each list of offsets from -3 to 3, against the sum done one by one.
func TestLineOfAllNearOffsets(t *testing.T) {
	for choice := range 1 << 7 {
		var offsets []int
		for i := range 7 {
			if choice>>i&1 == 1 {
				offsets = append(offsets, i-3)
			}
		}
		lines := modelLines(offsets, 9)
		for n := range lines {
			for place := -3*n - 2; place <= 3*n+2; place++ {
				lineIs(t, offsets, n, place, modelLine(lines, n, place))
			}
		}
	}
}

func TestLineOfFarOffsets(t *testing.T) {
	d := dice(41)
	for _, many := range []int{1, 2, 3, 5, 9, 20, 63, 64} {
		for range 2 {
			offsets := numbers(-64, 64)
			for i := range offsets {
				j := d.below(i + 1)
				offsets[i], offsets[j] = offsets[j], offsets[i]
			}
			offsets = offsets[:many]
			lines := modelLines(offsets, 150)
			for _, n := range []int{0, 1, 2, 3, 4, 7, 8, 31, 32, 33, 100, 127, 128, 150} {
				for range 100 {
					place := d.from(-65*n-1, 65*n+1)
					lineIs(t, offsets, n, place, modelLine(lines, n, place))
				}
				for place := -66; place <= 66; place += 3 {
					lineIs(t, offsets, n, place, modelLine(lines, n, place))
				}
			}
		}
	}
}

// TestLineTurnsNothingAbout: a place sees to the right what has a positive offset, so a cell is seen from its left.
func TestLineTurnsNothingAbout(t *testing.T) {
	for d := -64; d <= 64; d++ {
		for _, n := range []int{0, 1, 2, 5, 1 << 20, api.MaxGen - 1, api.MaxGen} {
			lineIs(t, []int{d}, n, -d*n, true)
			lineIs(t, []int{d}, n, -d*n+1, false)
			lineIs(t, []int{d}, n, -d*n-1, false)
			lineIs(t, []int{d}, n, d*n, d*n == 0)
		}
	}
}

// TestLineAtItsEnds: the outermost place comes about in one way alone, the place beside it in n ways.
func TestLineAtItsEnds(t *testing.T) {
	for _, offsets := range [][]int{{-64, 63, 64}, {64, 63, -64}, {0, 1, 64, 63}, {-64, -63}, {5, 7, 8}, {-3, -2, 0, 2}, numbers(-64, -1), numbers(1, 64)} {
		low, high := slices.Min(offsets), slices.Max(offsets)
		for _, n := range []int{1, 2, 3, 1000, 1<<20 - 1, 1<<49 + 1, api.MaxGen - 1, api.MaxGen} {
			lineIs(t, offsets, n, -high*n, true)
			lineIs(t, offsets, n, -low*n, true)
			lineIs(t, offsets, n, -high*n-1, false)
			lineIs(t, offsets, n, -low*n+1, false)
			lineIs(t, offsets, n, -high*n+1, n%2 == 1 && slices.Contains(offsets, high-1))
			lineIs(t, offsets, n, -low*n-1, n%2 == 1 && slices.Contains(offsets, low+1))
		}
	}
}

// TestLineOfPairs: of the offsets 0 and d, the place -d * k lives just if the number of ways to choose k of n is odd.
func TestLineOfPairs(t *testing.T) {
	d := dice(43)
	for range 3000 {
		n := d.from(0, api.MaxGen) >> d.below(40)
		k := d.from(0, n)
		if d.below(2) == 0 {
			k &= n
		}
		odd := bits.OnesCount(uint(k))+bits.OnesCount(uint(n-k)) == bits.OnesCount(uint(n))
		for _, far := range []int{1, -1, 3, 64, -64} {
			lineIs(t, []int{0, far}, n, -far*k, odd)
			if far != 1 && far != -1 {
				lineIs(t, []int{0, far}, n, -far*k+1, false)
			}
		}
	}
}

// TestLineOfThreeDigits: by a number of generations with three digits in twos, the cell is there once for each three offsets, moved by each as far as its digit says.
func TestLineOfThreeDigits(t *testing.T) {
	d := dice(47)
	offsets := []int{-64, -7, -1, 0, 2, 3, 50, 64}
	for range 30 {
		a := d.from(0, 47)
		b := d.from(a+1, 48)
		c := d.from(b+1, 49)
		ways := map[int]int{}
		for _, x := range offsets {
			for _, y := range offsets {
				for _, z := range offsets {
					ways[-(x<<a+y<<b+z<<c)]++
				}
			}
		}
		for place, many := range ways {
			lineIs(t, offsets, 1<<a+1<<b+1<<c, place, many%2 == 1)
			lineIs(t, offsets, 1<<a+1<<b+1<<c, place+1, ways[place+1]%2 == 1)
		}
	}
}

// TestLineAtAnyPlace: at is any int.
func TestLineAtAnyPlace(t *testing.T) {
	far := []int{math.MinInt, math.MinInt + 1, -1 << 62, -64*api.MaxGen - 1, 64*api.MaxGen + 1, 1 << 62, math.MaxInt - 1, math.MaxInt}
	for _, offsets := range [][]int{nil, {0}, {-64, 64}, {-64, 63, 0, 1, 64}, numbers(1, 64)} {
		for _, n := range []int{0, 1, 2, 12345, api.MaxGen - 1, api.MaxGen} {
			for _, place := range far {
				lineIs(t, offsets, n, place, false)
			}
		}
	}
	lineIs(t, []int{-64, 64}, api.MaxGen, 64*api.MaxGen, true)
	lineIs(t, []int{-64, 64}, api.MaxGen, -64*api.MaxGen, true)
}

func TestLineOfNoOffsetsAndOfNoGenerations(t *testing.T) {
	for _, place := range []int{-2, -1, 0, 1, 2} {
		lineIs(t, nil, 0, place, place == 0)
		lineIs(t, []int{1, 2}, 0, place, place == 0)
		for _, n := range []int{1, 2, api.MaxGen} {
			lineIs(t, nil, n, place, false)
		}
	}
}

// TestLineIsATorusThatIsWideEnough: as long as nothing comes round, a row of a torus is a line.
func TestLineIsATorusThatIsWideEnough(t *testing.T) {
	a := api.Topo{Kind: api.Torus, W: 1000, H: 1}
	for _, offsets := range [][]int{{0, 1}, {-1, 0, 1}, {-2, 1, 3}, {-4, -3, 2, 4}} {
		var row []api.Point
		for _, x := range offsets {
			row = append(row, at(x, 0))
		}
		for _, n := range []int{0, 1, 5, 64, 99, 120} {
			var want []api.Point
			for x := -500; x < 500; x++ {
				is, e := linear.Line(offsets, n, x)
				if e != api.OK {
					t.Fatal(e)
				}
				if is {
					want = append(want, at(x, 0))
				}
			}
			got, e := linear.Power(a, row, n)
			has(t, fmt.Sprint(offsets, n), got, e, want)
		}
	}
}
