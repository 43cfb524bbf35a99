package ring_test

import (
	"testing"

	"vivarium/api"
	"vivarium/ring"
)

// P14.1

// TestBytesOfEachSmallGrid: each cell has a state of its own, so that each place of the frame tells which cell it is.
func TestBytesOfEachSmallGrid(t *testing.T) {
	for _, a := range grids(5) {
		cells := numbered(a.W * a.H)
		frame := mustBytes(t, a, made(t, a.W, a.H, 256, false, cells))
		isFrame(t, "the page", a, frame, modelFrame(a, cells))
		isFrame(t, "fold", a, frame, foldFrame(t, a, cells))
	}
}

// TestBytesOfEachPlace looks at the four corners and the four edges by themselves, at sides of 1, 2 and 3 and at longer ones that are unlike.
func TestBytesOfEachPlace(t *testing.T) {
	for _, a := range append(grids(3), append(someOf(9, 4), someOf(4, 9)...)...) {
		cells := numbered(a.W * a.H)
		frame := parted(mustBytes(t, a, made(t, a.W, a.H, 256, false, cells)))
		look := func(name string, x, y int) {
			t.Helper()
			want := uint8(0)
			if p, is := modelCell(a, x, y); is {
				want = cells[p.Y*a.W+p.X]
			}
			if got := frame.state(x, y); got != want {
				t.Errorf("%v: %s (%d, %d): %d, not %d", a, name, x, y, got, want)
			}
		}
		for _, x := range []int{-1, a.W} {
			for _, y := range []int{-1, a.H} {
				look("corner", x, y)
			}
		}
		for x := range a.W {
			look("top", x, -1)
			look("bottom", x, a.H)
		}
		for y := range a.H {
			look("left", -1, y)
			look("right", a.W, y)
		}
		for y := range a.H {
			for x := range a.W {
				look("grid", x, y)
			}
		}
	}
}

// TestBytesWrittenOut: grids of unlike sides whose frames are worked out by hand. The field is 1 2 3, 4 5 6.
func TestBytesWrittenOut(t *testing.T) {
	f := made(t, 3, 2, 7, false, []uint8{1, 2, 3, 4, 5, 6})
	for _, c := range []struct {
		kind, turn uint8
		shift      int
		want       []uint8
	}{
		{api.Plane, api.TurnNone, 0, []uint8{0, 0, 0, 0, 0, 0, 1, 2, 3, 0, 0, 4, 5, 6, 0, 0, 0, 0, 0, 0}},
		{api.Torus, api.TurnNone, 0, []uint8{6, 4, 5, 6, 4, 3, 1, 2, 3, 1, 6, 4, 5, 6, 4, 3, 1, 2, 3, 1}},
		{api.Torus, api.TurnWide, 1, []uint8{4, 5, 6, 4, 5, 3, 1, 2, 3, 1, 6, 4, 5, 6, 4, 2, 3, 1, 2, 3}},
		{api.Torus, api.TurnWide, -1, []uint8{5, 6, 4, 5, 6, 3, 1, 2, 3, 1, 6, 4, 5, 6, 4, 1, 2, 3, 1, 2}},
		{api.Torus, api.TurnHigh, 1, []uint8{3, 4, 5, 6, 1, 6, 1, 2, 3, 4, 3, 4, 5, 6, 1, 6, 1, 2, 3, 4}},
		{api.Klein, api.TurnWide, 0, []uint8{4, 6, 5, 4, 6, 3, 1, 2, 3, 1, 6, 4, 5, 6, 4, 1, 3, 2, 1, 3}},
		{api.Klein, api.TurnWide, 1, []uint8{5, 4, 6, 5, 4, 3, 1, 2, 3, 1, 6, 4, 5, 6, 4, 2, 1, 3, 2, 1}},
		{api.Klein, api.TurnHigh, 0, []uint8{3, 4, 5, 6, 1, 6, 1, 2, 3, 4, 3, 4, 5, 6, 1, 6, 1, 2, 3, 4}},
		{api.Klein, api.TurnHigh, -1, []uint8{6, 4, 5, 6, 4, 3, 1, 2, 3, 1, 6, 4, 5, 6, 4, 3, 1, 2, 3, 1}},
		{api.Cross, api.TurnNone, 0, []uint8{1, 6, 5, 4, 3, 6, 1, 2, 3, 4, 3, 4, 5, 6, 1, 4, 3, 2, 1, 6}},
	} {
		a := api.Topo{Kind: c.kind, W: 3, H: 2, Turn: c.turn, Shift: c.shift}
		isFrame(t, "by hand", a, mustBytes(t, a, f), c.want)
	}
	nine := made(t, 3, 3, 10, false, numbered(9))
	ball := api.Topo{Kind: api.Sphere, W: 3, H: 3}
	isFrame(t, "by hand", ball, mustBytes(t, ball, nine), []uint8{1, 1, 4, 7, 7, 1, 1, 2, 3, 7, 2, 4, 5, 6, 8, 3, 7, 8, 9, 9, 3, 3, 6, 9, 9})
}

// TestBytesOfOneCell: all that is glued is this cell, nine times; of a Plane there is nothing about it.
func TestBytesOfOneCell(t *testing.T) {
	f := made(t, 1, 1, 256, false, []uint8{255})
	for _, a := range grids(1) {
		want := []uint8{255, 255, 255, 255, 255, 255, 255, 255, 255}
		if a.Kind == api.Plane {
			want = []uint8{0, 0, 0, 0, 255, 0, 0, 0, 0}
		}
		isFrame(t, "one cell", a, mustBytes(t, a, f), want)
	}
}

// TestBytesOfGreatGrids: the longest sides, the most cells, and the greatest shifts.
func TestBytesOfGreatGrids(t *testing.T) {
	d := dice(3)
	for _, s := range [][2]int{{api.MaxSide, 1}, {1, api.MaxSide}, {api.MaxSide, 16}, {16, api.MaxSide}, {1024, 1024}} {
		cells := d.cells(s[0]*s[1], 256)
		f := made(t, s[0], s[1], 256, false, cells)
		for _, a := range someOf(s[0], s[1]) {
			isFrame(t, "great", a, mustBytes(t, a, f), modelFrame(a, cells))
		}
	}
}

// TestBytesWhateverTheStates: the frame has the states as they are, the highest one too, of fields of each number of states.
func TestBytesWhateverTheStates(t *testing.T) {
	d := dice(5)
	for states := 2; states <= 256; states++ {
		cells := d.cells(6, states)
		cells[0], cells[5] = uint8(states-1), uint8(states-1)
		f := made(t, 3, 2, states, false, cells)
		for _, a := range someOf(3, 2) {
			isFrame(t, "states", a, mustBytes(t, a, f), modelFrame(a, cells))
		}
	}
}

// TestBytesRefuses: each error, and which counts where several would.
func TestBytesRefuses(t *testing.T) {
	eachRefusal(t, func(a api.Topo, c refusal) {
		f, e := ring.Bytes(a, c.f)
		if e != c.bytes || e != api.OK && (f.W != 0 || f.H != 0 || len(f.Cells) > 0) {
			t.Errorf("Bytes(%v, %s): %d times %d with %d cells, %d; not %d", a, c.name, f.W, f.H, len(f.Cells), e, c.bytes)
		}
	})
}
