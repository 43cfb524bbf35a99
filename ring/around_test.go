package ring_test

import (
	"math"
	"slices"
	"testing"

	"vivarium/api"
	"vivarium/hood"
	"vivarium/ring"
)

// P14.4

// modelAround are the states at the offsets of chapter 7.
func modelAround(p places, near uint8, x, y int) []uint8 {
	var states []uint8
	for _, d := range table[near] {
		states = append(states, p.state(x+d.X, y+d.Y))
	}
	return states
}

// TestAroundOfEachCell: the corners of the grid, its edges and within, of frames that have other states at each place.
func TestAroundOfEachCell(t *testing.T) {
	for _, s := range [][2]int{{1, 1}, {1, 2}, {2, 1}, {1, 5}, {5, 1}, {2, 2}, {3, 3}, {4, 7}, {7, 4}, {11, 12}} {
		f := api.Frame{W: s[0], H: s[1], Cells: numbered((s[0] + 2) * (s[1] + 2))}
		all := parted(f)
		for _, near := range hoods {
			for y := range f.H {
				for x := range f.W {
					if got, want := mustAround(t, f, near, x, y), modelAround(all, near, x, y); !slices.Equal(got, want) {
						t.Errorf("Around(%v, %d, %d, %d): %v, not %v", s, near, x, y, got, want)
					}
				}
			}
		}
	}
}

// TestAroundWrittenOut: a frame of 3 times 2 with the numbers from 1 to 20, row by row, at the four corners of the grid and between.
func TestAroundWrittenOut(t *testing.T) {
	f := api.Frame{W: 3, H: 2, Cells: numbered(20)}
	for _, c := range []struct {
		near uint8
		x, y int
		want []uint8
	}{
		{api.Moore, 0, 0, []uint8{2, 3, 8, 13, 12, 11, 6, 1}},
		{api.Moore, 2, 0, []uint8{4, 5, 10, 15, 14, 13, 8, 3}},
		{api.Moore, 0, 1, []uint8{7, 8, 13, 18, 17, 16, 11, 6}},
		{api.Moore, 2, 1, []uint8{9, 10, 15, 20, 19, 18, 13, 8}},
		{api.Moore, 1, 1, []uint8{8, 9, 14, 19, 18, 17, 12, 7}},
		{api.Neumann, 0, 0, []uint8{2, 8, 12, 6}},
		{api.Neumann, 2, 0, []uint8{4, 10, 14, 8}},
		{api.Neumann, 0, 1, []uint8{7, 13, 17, 11}},
		{api.Neumann, 2, 1, []uint8{9, 15, 19, 13}},
		{api.Neumann, 1, 0, []uint8{3, 9, 13, 7}},
		{api.Hex, 0, 0, []uint8{2, 8, 13, 12, 6, 1}},
		{api.Hex, 2, 0, []uint8{4, 10, 15, 14, 8, 3}},
		{api.Hex, 0, 1, []uint8{7, 13, 18, 17, 11, 6}},
		{api.Hex, 2, 1, []uint8{9, 15, 20, 19, 13, 8}},
		{api.Hex, 1, 0, []uint8{3, 9, 14, 13, 7, 2}},
	} {
		if got := mustAround(t, f, c.near, c.x, c.y); !slices.Equal(got, c.want) {
			t.Errorf("Around(%d, %d, %d): %v, not %v", c.near, c.x, c.y, got, c.want)
		}
	}
}

// TestAroundGoesByTheOffsetsOfHood: the order is that of hood, which this layer does not call.
func TestAroundGoesByTheOffsetsOfHood(t *testing.T) {
	d := dice(19)
	f := d.frame(5, 4)
	for n := range 256 {
		near := uint8(n)
		offsets, e := hood.Offsets(near)
		got, refused := ring.Around(f, near, 2, 1)
		if e != refused || len(got) != len(offsets) {
			t.Errorf("Around(%d): %v, %d; hood: %d", near, got, refused, e)
			continue
		}
		for i, o := range offsets {
			if want := parted(f).state(2+o.X, 1+o.Y); got[i] != want {
				t.Errorf("Around(%d): %v: the neighbour %d is not %d", near, got, i, want)
			}
		}
	}
}

// TestAroundOfGreatFrames: the four corners of frames at the limits.
func TestAroundOfGreatFrames(t *testing.T) {
	d := dice(23)
	for _, s := range [][2]int{{api.MaxSide, 16}, {16, api.MaxSide}, {api.MaxSide, 1}, {1, api.MaxSide}, {1024, 1024}} {
		f := d.frame(s[0], s[1])
		all := parted(f)
		for _, near := range hoods {
			for _, x := range []int{0, f.W / 2, f.W - 1} {
				for _, y := range []int{0, f.H / 2, f.H - 1} {
					if got, want := mustAround(t, f, near, x, y), modelAround(all, near, x, y); !slices.Equal(got, want) {
						t.Errorf("Around(%v, %d, %d, %d): %v, not %v", s, near, x, y, got, want)
					}
				}
			}
		}
	}
}

// refusesAround looks at an error, beside which there is no list.
func refusesAround(t *testing.T, f api.Frame, near uint8, x, y int, want api.Errno) {
	t.Helper()
	if got, e := ring.Around(f, near, x, y); len(got) > 0 || e != want {
		t.Errorf("Around(%d times %d with %d, %d, %d, %d): %v, %d; not %d", f.W, f.H, len(f.Cells), near, x, y, got, e, want)
	}
}

// beyond are numbers outside of 0 to n - 1, the next ones first.
func beyond(n int) []int {
	return []int{-1, n, n + 1, -2, -n, 1 << 32, -1 << 32, math.MaxInt, math.MaxInt - 1, math.MinInt, math.MinInt + 1}
}

// TestAroundOfNoCell: the places of the ring are none of the grid's, nor those farther off.
func TestAroundOfNoCell(t *testing.T) {
	d := dice(29)
	for _, s := range [][2]int{{1, 1}, {2, 3}, {3, 2}, {5, 5}, {1, 4}, {4, 1}} {
		f := d.frame(s[0], s[1])
		for _, near := range hoods {
			for _, x := range beyond(f.W) {
				for y := range f.H {
					refusesAround(t, f, near, x, y, api.ErrPlace)
				}
				for _, y := range beyond(f.H) {
					refusesAround(t, f, near, x, y, api.ErrPlace)
				}
			}
			for _, y := range beyond(f.H) {
				for x := range f.W {
					refusesAround(t, f, near, x, y, api.ErrPlace)
				}
			}
		}
	}
}

// TestAroundOfNoNeighbourhood: each other number, at places that there are and that there are not.
func TestAroundOfNoNeighbourhood(t *testing.T) {
	d := dice(31)
	f := d.frame(3, 2)
	for n := range 256 {
		if near := uint8(n); !slices.Contains(hoods, near) {
			refusesAround(t, f, near, 1, 1, api.ErrHood)
			refusesAround(t, f, near, 3, 1, api.ErrHood)
			refusesAround(t, f, near, -1, -1, api.ErrHood)
			refusesAround(t, f, near, math.MinInt, math.MaxInt, api.ErrHood)
		}
	}
}

// TestAroundOfNoFrame: it counts ahead of the neighbourhood and of the place.
func TestAroundOfNoFrame(t *testing.T) {
	wrong := []api.Frame{
		{},
		{W: 2, H: 2},
		{W: 2, H: 2, Cells: make([]uint8, 15)},
		{W: 2, H: 2, Cells: make([]uint8, 17)},
		{W: 0, H: 2, Cells: make([]uint8, 8)},
		{W: 2, H: 0, Cells: make([]uint8, 8)},
		{W: -3, H: -3, Cells: make([]uint8, 1)},
		{W: api.MaxSide + 1, H: 1, Cells: make([]uint8, 3*(api.MaxSide+3))},
		{W: 1025, H: 1024, Cells: make([]uint8, 1027*1026)},
		{W: math.MaxInt, H: math.MaxInt, Cells: make([]uint8, 1)},
		{W: math.MinInt, H: math.MinInt, Cells: make([]uint8, 4)},
	}
	for _, f := range wrong {
		for _, near := range []uint8{0, api.Moore, api.Neumann, api.Hex, 4, 255} {
			for _, n := range []int{0, 1, 9, -1, math.MaxInt, math.MinInt} {
				refusesAround(t, f, near, n, n, api.ErrFrame)
			}
		}
	}
}
