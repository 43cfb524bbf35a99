package ring_test

import (
	"math"
	"testing"

	"vivarium/api"
	"vivarium/ring"
)

// P14.3

// may looks at a frame of as many cells as it must have, and at one with one fewer, one more, and none.
func may(t *testing.T, w, h int) {
	t.Helper()
	n := (w + 2) * (h + 2)
	for _, c := range []struct {
		cells int
		want  api.Errno
	}{{n, api.OK}, {n - 1, api.ErrFrame}, {n + 1, api.ErrFrame}, {w * h, api.ErrFrame}, {n - w - 2, api.ErrFrame}, {n + w + 2, api.ErrFrame}, {0, api.ErrFrame}} {
		if e := ring.Check(api.Frame{W: w, H: h, Cells: make([]uint8, c.cells)}); e != c.want {
			t.Errorf("Check(%d, %d, %d cells): %d, not %d", w, h, c.cells, e, c.want)
		}
	}
	if e := ring.Check(api.Frame{W: w, H: h}); e != api.ErrFrame {
		t.Errorf("Check(%d, %d, nil): %d", w, h, e)
	}
}

func TestCheckOfSmallFrames(t *testing.T) {
	for w := 1; w <= 9; w++ {
		for h := 1; h <= 9; h++ {
			may(t, w, h)
		}
	}
}

// TestCheckAtTheLimits: the longest sides and the most cells.
func TestCheckAtTheLimits(t *testing.T) {
	for _, s := range [][2]int{{api.MaxSide, 1}, {api.MaxSide, 16}, {api.MaxSide - 1, 16}, {1024, 1024}, {1023, 1025}, {2048, 512}, {61680, 17}} {
		may(t, s[0], s[1])
		may(t, s[1], s[0])
	}
}

// TestCheckBeyondTheLimits: a side that is one too long, cells that are a few too many, each with as many states as it would have.
func TestCheckBeyondTheLimits(t *testing.T) {
	for _, s := range [][2]int{{api.MaxSide + 1, 1}, {api.MaxSide + 1, 15}, {api.MaxSide, 17}, {1025, 1024}, {61681, 17}, {2049, 512}, {0, 1}, {0, 0}, {0, api.MaxSide}, {-1, 1}, {-1, -1}, {-2, 5}} {
		for _, side := range [][2]int{s, {s[1], s[0]}} {
			n := (side[0] + 2) * (side[1] + 2)
			if e := ring.Check(api.Frame{W: side[0], H: side[1], Cells: make([]uint8, n)}); e != api.ErrFrame {
				t.Errorf("Check(%d, %d, %d cells): %d", side[0], side[1], n, e)
			}
		}
	}
}

// TestCheckOfNumbersThatWrapRound: numbers whose product, or the product of two more of each, comes round to what the list has.
func TestCheckOfNumbersThatWrapRound(t *testing.T) {
	numbers := []int{math.MinInt, math.MinInt + 1, -1 << 32, -1 << 16, -3, -2, -1, 0, 1, 2, 1 << 16, 1<<16 + 1, 1 << 20, 1 << 31, 1 << 32, 1<<32 - 2, 1 << 33, 1 << 62, 1<<62 - 2, math.MaxInt - 2, math.MaxInt - 1, math.MaxInt}
	for _, w := range numbers {
		for _, h := range numbers {
			if 1 <= w && w <= 1<<16 && 1 <= h && h <= 1<<16 {
				continue
			}
			for _, n := range []int{0, 1, 3, 9, (w + 2) * (h + 2)} {
				if n < 0 || n > 1<<21 {
					continue
				}
				if e := ring.Check(api.Frame{W: w, H: h, Cells: make([]uint8, n)}); e != api.ErrFrame {
					t.Errorf("Check(%d, %d, %d cells): %d", w, h, n, e)
				}
			}
		}
	}
}

// TestCheckLooksAtNoStates: any byte may stand in a frame, and spare room behind the list counts for nothing.
func TestCheckLooksAtNoStates(t *testing.T) {
	d := dice(17)
	f := d.frame(3, 2)
	if e := ring.Check(f); e != api.OK {
		t.Error(e)
	}
	f.Cells = append(f.Cells, 1, 2, 3)[:20]
	if e := ring.Check(f); e != api.OK {
		t.Error(e)
	}
	f.Cells = f.Cells[:19]
	if e := ring.Check(f); e != api.ErrFrame {
		t.Error(e)
	}
}
