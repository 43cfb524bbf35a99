package ring_test

import (
	"slices"
	"testing"

	"vivarium/api"
	"vivarium/field"
	"vivarium/fold"
	"vivarium/ring"
	"vivarium/topo"
	"vivarium/words"
)

// The model: which cell a place of the grid or of its ring is, by the page's formulas and its table of the Sphere, in home numbers and without fold. A frame is worked out of it place by place, each by itself.

func at(x, y int) api.Point { return api.Point{X: x, Y: y} }

// mod is the remainder from 0 on.
func mod(n, side int) int { return (n%side + side) % side }

// tiles is n divided by the side, rounded down.
func tiles(n, side int) int { return (n - mod(n, side)) / side }

// modelCell is what (u, v) is; false: no cell.
func modelCell(t api.Topo, u, v int) (api.Point, bool) {
	if 0 <= u && u < t.W && 0 <= v && v < t.H {
		return at(u, v), true
	}
	switch t.Kind {
	case api.Plane:
		return api.Point{}, false
	case api.Sphere:
		return modelSphere(t.W, u, v), true
	}
	i, j := tiles(u, t.W), tiles(v, t.H)
	x, y := mod(u, t.W), mod(v, t.H)
	switch {
	case t.Kind == api.Torus && t.Turn == api.TurnWide:
		x = mod(u-j*t.Shift, t.W)
	case t.Kind == api.Torus && t.Turn == api.TurnHigh:
		y = mod(v-i*t.Shift, t.H)
	case t.Kind == api.Klein && t.Turn == api.TurnWide && mod(j, 2) == 1:
		x = mod(t.W-1-u+t.Shift, t.W)
	case t.Kind == api.Klein && t.Turn == api.TurnHigh && mod(i, 2) == 1:
		y = mod(t.H-1-v+t.Shift, t.H)
	case t.Kind == api.Cross:
		if mod(j, 2) == 1 {
			x = t.W - 1 - x
		}
		if mod(i, 2) == 1 {
			y = t.H - 1 - y
		}
	}
	return at(x, y), true
}

// modelSphere is the page's table, of the ring alone.
func modelSphere(n, u, v int) api.Point {
	switch (api.Point{X: u, Y: v}) {
	case at(-1, -1):
		return at(0, 0)
	case at(n, n):
		return at(n-1, n-1)
	case at(n, -1):
		return at(0, n-1)
	case at(-1, n):
		return at(n-1, 0)
	case at(u, -1):
		return at(0, u)
	case at(-1, v):
		return at(v, 0)
	case at(u, n):
		return at(n-1, u)
	}
	return at(v, n-1)
}

// modelFrame is the frame of a grid whose cells have these states, row by row.
func modelFrame(t api.Topo, cells []uint8) []uint8 {
	frame := make([]uint8, 0, (t.W+2)*(t.H+2))
	for v := -1; v <= t.H; v++ {
		for u := -1; u <= t.W; u++ {
			state := uint8(0)
			if p, is := modelCell(t, u, v); is {
				state = cells[p.Y*t.W+p.X]
			}
			frame = append(frame, state)
		}
	}
	return frame
}

// foldFrame is what fold's Ring says of the same.
func foldFrame(test *testing.T, t api.Topo, cells []uint8) []uint8 {
	test.Helper()
	var frame []uint8
	for v := -1; v <= t.H; v++ {
		for u := -1; u <= t.W; u++ {
			frame = append(frame, stateByFold(test, t, cells, u, v))
		}
	}
	return frame
}

// stateByFold is the state of what fold says that the place with these home numbers is.
func stateByFold(test *testing.T, t api.Topo, cells []uint8, u, v int) uint8 {
	test.Helper()
	p, is, e := fold.Ring(t, at(u-t.W/2, v-t.H/2))
	if e != api.OK {
		test.Fatalf("%v: fold.Ring of (%d, %d): %d", t, u, v, e)
	}
	if !is {
		return 0
	}
	return cells[(p.Y+t.H/2)*t.W+p.X+t.W/2]
}

// places is a frame cut into its rows, which is asked by home numbers.
type places [][]uint8

func parted(f api.Frame) places {
	return slices.Collect(slices.Chunk(f.Cells, f.W+2))
}

func (p places) state(x, y int) uint8 { return p[y+1][x+1] }

// table are chapter 7's offsets.
var table = map[uint8][]api.Point{
	api.Moore:   {at(0, -1), at(1, -1), at(1, 0), at(1, 1), at(0, 1), at(-1, 1), at(-1, 0), at(-1, -1)},
	api.Neumann: {at(0, -1), at(1, 0), at(0, 1), at(-1, 0)},
	api.Hex:     {at(0, -1), at(1, 0), at(1, 1), at(0, 1), at(-1, 0), at(-1, -1)},
}

var hoods = []uint8{api.Moore, api.Neumann, api.Hex}

// grids are all topologies with two ends each way, of sides up to so many, that may be: each kind, turned one way and the other, with each shift and without.
func grids(most int) []api.Topo {
	var all []api.Topo
	for kind := api.Plane; kind <= api.Sphere; kind++ {
		for w := 1; w <= most; w++ {
			for h := 1; h <= most; h++ {
				all = append(all, turned(kind, w, h, -most, most)...)
			}
		}
	}
	return all
}

// turned are the topologies of a kind and its sides that may be, with the shifts from low to high.
func turned(kind uint8, w, h, low, high int) []api.Topo {
	var all []api.Topo
	for turn := api.TurnNone; turn <= api.TurnHigh; turn++ {
		for shift := low; shift <= high; shift++ {
			t := api.Topo{Kind: kind, W: w, H: h, Turn: turn, Shift: shift}
			if topo.Check(t) == api.OK {
				all = append(all, t)
			}
		}
	}
	return all
}

// someOf are topologies of each kind with these sides, with the least and the greatest shifts and some between.
func someOf(w, h int) []api.Topo {
	shifts := []int{-1, 0, 1, w - 1, 1 - w, h - 1, 1 - h, w / 2, -(h / 2)}
	slices.Sort(shifts)
	var all []api.Topo
	for kind := api.Plane; kind <= api.Sphere; kind++ {
		for _, shift := range slices.Compact(shifts) {
			all = append(all, turned(kind, w, h, shift, shift)...)
		}
	}
	return all
}

// numbered are states of which no two are alike, none 0; there are at most 255 cells.
func numbered(n int) []uint8 {
	cells := make([]uint8, n)
	for i := range cells {
		cells[i] = uint8(i + 1)
	}
	return cells
}

// made is a field whose cells have these states, row by row.
func made(t *testing.T, w, h, states int, packed bool, cells []uint8) *field.Field {
	t.Helper()
	f, e := field.New(w, h, states, packed)
	if e != api.OK || len(cells) != w*h {
		t.Fatalf("New(%d, %d, %d, %v): %d, %d cells", w, h, states, packed, e, len(cells))
	}
	for y := range h {
		if e := f.Lay(y, cells[y*w:(y+1)*w]); e != api.OK {
			t.Fatalf("Lay(%d): %d", y, e)
		}
	}
	return f
}

// cellsOf are a field's states, row by row.
func cellsOf(t *testing.T, f *field.Field) []uint8 {
	t.Helper()
	var cells []uint8
	for y := range f.H() {
		line, e := f.Line(y)
		if e != api.OK {
			t.Fatalf("Line(%d): %d", y, e)
		}
		cells = append(cells, line...)
	}
	return cells
}

// mustBytes is a frame that there must be.
func mustBytes(test *testing.T, t api.Topo, f *field.Field) api.Frame {
	test.Helper()
	frame, e := ring.Bytes(t, f)
	if e != api.OK || frame.W != t.W || frame.H != t.H {
		test.Fatalf("Bytes(%v): %d times %d, %d", t, frame.W, frame.H, e)
	}
	return frame
}

// mustRows are rows that there must be.
func mustRows(test *testing.T, t api.Topo, f *field.Field) []api.Row {
	test.Helper()
	rows, e := ring.Rows(t, f)
	if e != api.OK || len(rows) != t.H+2 {
		test.Fatalf("Rows(%v): %d rows, %d", t, len(rows), e)
	}
	return rows
}

// mustAround are neighbours that there must be.
func mustAround(t *testing.T, f api.Frame, hood uint8, x, y int) []uint8 {
	t.Helper()
	near, e := ring.Around(f, hood, x, y)
	if e != api.OK {
		t.Fatalf("Around(%d times %d, %d, %d, %d): %d", f.W, f.H, hood, x, y, e)
	}
	return near
}

// bitsOf are a row's bits; a row that may not be ends the test.
func bitsOf(t *testing.T, r api.Row) []uint8 {
	t.Helper()
	if !words.Valid(r) {
		t.Fatalf("a row of %d bits in %d words that may not be", r.N, len(r.Words))
	}
	bits := make([]uint8, r.N)
	for i := range words.Bits(r) {
		bits[i] = 1
	}
	return bits
}

// isFrame holds a frame against the states that it must have.
func isFrame(test *testing.T, what string, t api.Topo, f api.Frame, want []uint8) {
	test.Helper()
	if f.W != t.W || f.H != t.H || !slices.Equal(f.Cells, want) {
		test.Errorf("%s: %v: %d times %d, %v; not %v", what, t, f.W, f.H, brief(f.Cells), brief(want))
	}
}

// areRows holds rows against a frame's states.
func areRows(test *testing.T, what string, t api.Topo, rows []api.Row, want []uint8) {
	test.Helper()
	bits := make([]uint8, 0, len(want))
	for y, r := range rows {
		if r.N != t.W+2 {
			test.Errorf("%s: %v: the row %d has %d bits", what, t, y, r.N)
		}
		bits = append(bits, bitsOf(test, r)...)
	}
	if len(rows) != t.H+2 || !slices.Equal(bits, want) {
		test.Errorf("%s: %v: %d rows, %v; not %v", what, t, len(rows), brief(bits), brief(want))
	}
}

// brief is the beginning of a list, as a test tells it.
func brief[T any](list []T) []T { return list[:min(len(list), 40)] }

// dice are numbers drawn at random, the same ones each time.
type dice uint64

// below is a number from 0 to n - 1.
func (d *dice) below(n int) int {
	*d = *d*6364136223846793005 + 1442695040888963407
	return int(uint64(*d)>>33) % n
}

// cells are states drawn at random.
func (d *dice) cells(n, states int) []uint8 {
	cells := make([]uint8, n)
	for i := range cells {
		cells[i] = uint8(d.below(states))
	}
	return cells
}

// frame is a frame of states drawn at random, which need not be those of any grid.
func (d *dice) frame(w, h int) api.Frame {
	return api.Frame{W: w, H: h, Cells: d.cells((w+2)*(h+2), 256)}
}
