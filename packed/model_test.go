package packed_test

import (
	"slices"
	"testing"

	"vivarium/api"
	"vivarium/field"
	"vivarium/life"
	"vivarium/packed"
	"vivarium/topo"
	"vivarium/words"
)

// The model: one generation as the page says it, cell by cell, in home numbers, without ring, fold and hood; a row of bits is the list of its bits. What a rule says of a cell is what life.Next says, as the chapter has it.

func at(x, y int) api.Point { return api.Point{X: x, Y: y} }

// mod is the remainder from 0 on.
func mod(n, side int) int { return (n%side + side) % side }

// tiles is n divided by the side, rounded down.
func tiles(n, side int) int { return (n - mod(n, side)) / side }

// modelCell is the cell that (u, v) is; false: none.
func modelCell(t api.Topo, u, v int) (api.Point, bool) {
	if 0 <= u && u < t.W && 0 <= v && v < t.H {
		return at(u, v), true
	}
	switch t.Kind {
	case api.Plane:
		return api.Point{}, false
	case api.Sphere:
		return modelSphere(t.W, u, v), true
	}
	i, j := tiles(u, t.W), tiles(v, t.H)
	x, y := mod(u, t.W), mod(v, t.H)
	switch {
	case t.Kind == api.Torus && t.Turn == api.TurnWide:
		x = mod(u-j*t.Shift, t.W)
	case t.Kind == api.Torus && t.Turn == api.TurnHigh:
		y = mod(v-i*t.Shift, t.H)
	case t.Kind == api.Klein && t.Turn == api.TurnWide && mod(j, 2) == 1:
		x = mod(t.W-1-u+t.Shift, t.W)
	case t.Kind == api.Klein && t.Turn == api.TurnHigh && mod(i, 2) == 1:
		y = mod(t.H-1-v+t.Shift, t.H)
	case t.Kind == api.Cross:
		if mod(j, 2) == 1 {
			x = t.W - 1 - x
		}
		if mod(i, 2) == 1 {
			y = t.H - 1 - y
		}
	}
	return at(x, y), true
}

// modelSphere is the page's table, of the ring alone.
func modelSphere(n, u, v int) api.Point {
	switch (api.Point{X: u, Y: v}) {
	case at(-1, -1):
		return at(0, 0)
	case at(n, n):
		return at(n-1, n-1)
	case at(n, -1):
		return at(0, n-1)
	case at(-1, n):
		return at(n-1, 0)
	case at(u, -1):
		return at(0, u)
	case at(-1, v):
		return at(v, 0)
	case at(u, n):
		return at(n-1, u)
	}
	return at(v, n-1)
}

var hoods = []uint8{api.Moore, api.Neumann, api.Hex}

// offsets are chapter 7's.
var offsets = map[uint8][]api.Point{
	api.Moore:   {at(0, -1), at(1, -1), at(1, 0), at(1, 1), at(0, 1), at(-1, 1), at(-1, 0), at(-1, -1)},
	api.Neumann: {at(0, -1), at(1, 0), at(0, 1), at(-1, 0)},
	api.Hex:     {at(0, -1), at(1, 0), at(1, 1), at(0, 1), at(-1, 0), at(-1, -1)},
}

// modelNext is what a rule that may be says of a cell with so many living neighbours.
func modelNext(l api.Life, lives bool, living int) bool {
	state := uint8(0)
	if lives {
		state = 1
	}
	next, e := life.Next(l, state, living)
	if e != api.OK {
		panic(e)
	}
	return next == 1
}

// modelLine are the cells between two rows one generation later; the rows have a place more at both ends.
func modelLine(l api.Life, rows [3][]bool) []bool {
	next := make([]bool, len(rows[1])-2)
	for i := range next {
		living := 0
		for _, d := range offsets[l.Hood] {
			if rows[1+d.Y][i+1+d.X] {
				living++
			}
		}
		next[i] = modelNext(l, rows[1][i+1], living)
	}
	return next
}

// modelRun are the cells n generations later, row by row.
func modelRun(l api.Life, t api.Topo, cells []uint8, n int) []uint8 {
	for range n {
		next := make([]uint8, len(cells))
		for i, state := range cells {
			living := 0
			for _, d := range offsets[l.Hood] {
				if p, is := modelCell(t, i%t.W+d.X, i/t.W+d.Y); is && cells[p.Y*t.W+p.X] == 1 {
					living++
				}
			}
			if modelNext(l, state == 1, living) {
				next[i] = 1
			}
		}
		cells = next
	}
	return cells
}

// grids are all topologies with two ends each way, of sides up to so many, that may be: each kind, turned one way and the other, with each shift and without.
func grids(most int) []api.Topo {
	var all []api.Topo
	for kind := api.Plane; kind <= api.Sphere; kind++ {
		for w := 1; w <= most; w++ {
			for h := 1; h <= most; h++ {
				all = append(all, turned(kind, w, h, -most, most)...)
			}
		}
	}
	return all
}

// turned are the topologies of a kind and its sides that may be, with the shifts from low to high.
func turned(kind uint8, w, h, low, high int) []api.Topo {
	var all []api.Topo
	for turn := api.TurnNone; turn <= api.TurnHigh; turn++ {
		for shift := low; shift <= high; shift++ {
			t := api.Topo{Kind: kind, W: w, H: h, Turn: turn, Shift: shift}
			if topo.Check(t) == api.OK {
				all = append(all, t)
			}
		}
	}
	return all
}

// someOf are topologies of each kind with these sides, with the least and the greatest shifts and some between.
func someOf(w, h int) []api.Topo {
	shifts := []int{-1, 0, 1, w - 1, 1 - w, h - 1, 1 - h, w / 2, -(h / 2)}
	slices.Sort(shifts)
	var all []api.Topo
	for kind := api.Plane; kind <= api.Sphere; kind++ {
		for _, shift := range slices.Compact(shifts) {
			all = append(all, turned(kind, w, h, shift, shift)...)
		}
	}
	return all
}

// conway is B3/S23.
func conway() api.Life { return api.Life{Hood: api.Moore, Born: 1 << 3, Stay: 1<<2 | 1<<3} }

// upTo has all counts of a neighbourhood, as bits.
func upTo(near uint8) uint16 { return 1<<(len(offsets[near])+1) - 1 }

// dice are numbers drawn at random, the same ones each time.
type dice uint64

// below is a number from 0 to n - 1.
func (d *dice) below(n int) int {
	*d = *d*6364136223846793005 + 1442695040888963407
	return int(uint64(*d)>>33) % n
}

// cells are states drawn at random.
func (d *dice) cells(n int) []uint8 {
	cells := make([]uint8, n)
	for i := range cells {
		cells[i] = uint8(d.below(2))
	}
	return cells
}

// bits are drawn at random; of four so many are set, one with another.
func (d *dice) bits(n, ofFour int) []bool {
	bits := make([]bool, n)
	for i := range bits {
		bits[i] = d.below(4) < ofFour
	}
	return bits
}

// rule is one of a neighbourhood, drawn at random.
func (d *dice) rule(near uint8) api.Life {
	counts := int(upTo(near)) + 1
	return api.Life{Hood: near, Born: uint16(d.below(counts)), Stay: uint16(d.below(counts))}
}

// rulesOf are rules of a neighbourhood: each count alone, of births and of stays, so that a count that is wrong is seen; none and all of both; what wakes empty space; some drawn at random.
func rulesOf(near uint8) []api.Life {
	d := dice(3 + uint64(near))
	all := []api.Life{{Hood: near}, {Hood: near, Born: upTo(near)}, {Hood: near, Stay: upTo(near)}, {Hood: near, Born: upTo(near), Stay: upTo(near)}, {Hood: near, Born: 1, Stay: 1 << len(offsets[near])}}
	for n := range len(offsets[near]) + 1 {
		all = append(all, api.Life{Hood: near, Born: 1 << n}, api.Life{Hood: near, Stay: 1 << n})
	}
	for range 4 {
		all = append(all, d.rule(near))
	}
	return all
}

// allRules are those of the three neighbourhoods.
func allRules() []api.Life {
	return slices.Concat(rulesOf(api.Moore), rulesOf(api.Neumann), rulesOf(api.Hex))
}

// fewRules are two or three of each neighbourhood; some wake empty space.
func fewRules() []api.Life {
	d := dice(11)
	all := []api.Life{conway(), {Hood: api.Hex, Born: 1 | 1<<2, Stay: 1 << 3}, {Hood: api.Neumann, Born: 1<<1 | 1<<3, Stay: 1<<2 | 1<<4}}
	for _, near := range hoods {
		l := d.rule(near)
		l.Born |= 1
		all = append(all, l, d.rule(near))
	}
	return all
}

// wrongRules are those that life.Check refuses: no neighbourhood, a count above the greatest.
func wrongRules() []api.Life {
	return []api.Life{{}, {Hood: 4}, {Hood: 255, Born: 1 << 3}, {Born: 1 << 3, Stay: 1 << 2}, {Hood: api.Moore, Born: 1 << 9}, {Hood: api.Moore, Stay: 1 << 9}, {Hood: api.Moore, Born: 1 << 15}, {Hood: api.Neumann, Born: 1 << 5}, {Hood: api.Neumann, Born: 1 << 3, Stay: 1 << 8}, {Hood: api.Hex, Born: 1 << 7}, {Hood: api.Hex, Stay: 1 << 7}, {Hood: api.Hex, Born: 65535, Stay: 65535}}
}

// rowOf and bitsOf build a row from its bits and the bits from a row, by chapter 2's words alone.
func rowOf(bits []bool) api.Row {
	r := api.Row{N: len(bits), Words: make([]uint64, (len(bits)+63)/64)}
	for i, on := range bits {
		if on {
			r.Words[i/64] += 1 << (i % 64)
		}
	}
	return r
}

func bitsOf(r api.Row) []bool {
	bits := make([]bool, r.N)
	for i := range bits {
		bits[i] = r.Words[i/64]/(1<<(i%64))%2 == 1
	}
	return bits
}

// row is a text of 0 and 1, bit 0 first.
func row(text string) api.Row {
	bits := make([]bool, len(text))
	for i := range bits {
		bits[i] = text[i] == '1'
	}
	return rowOf(bits)
}

// blank is a row of n bits, none set.
func blank(n int) api.Row { return rowOf(make([]bool, n)) }

// mustLine is a row that there must be: one that may be, with two bits fewer than those that are handed in.
func mustLine(t *testing.T, l api.Life, above, here, below api.Row) api.Row {
	t.Helper()
	r, e := packed.Line(l, above, here, below)
	if e != api.OK || !words.Valid(r) || r.N != here.N-2 {
		t.Fatalf("Line(%v) of %d bits: N %d, %d words, may be: %v, error %d", l, here.N, r.N, len(r.Words), words.Valid(r), e)
	}
	return r
}

// made is a field whose cells have these states, row by row.
func made(t *testing.T, w, h, states int, bits bool, cells []uint8) *field.Field {
	t.Helper()
	f, e := field.New(w, h, states, bits)
	if e != api.OK || len(cells) != w*h {
		t.Fatalf("New(%d, %d, %d, %v): %d, %d cells", w, h, states, bits, e, len(cells))
	}
	for y := range h {
		if e := f.Lay(y, cells[y*w:(y+1)*w]); e != api.OK {
			t.Fatalf("Lay(%d): %d", y, e)
		}
	}
	return f
}

// drawn is a picture as a field of two states: a letter o is a living cell.
func drawn(t *testing.T, bits bool, lines ...string) *field.Field {
	t.Helper()
	var cells []uint8
	for _, line := range lines {
		for _, letter := range []byte(line) {
			state := uint8(0)
			if letter == 'o' {
				state = 1
			}
			cells = append(cells, state)
		}
	}
	return made(t, len(lines[0]), len(lines), 2, bits, cells)
}

// cellsOf are a field's states, row by row.
func cellsOf(t *testing.T, f *field.Field) []uint8 {
	t.Helper()
	var cells []uint8
	for y := range f.H() {
		line, e := f.Line(y)
		if e != api.OK {
			t.Fatalf("Line(%d): %d", y, e)
		}
		cells = append(cells, line...)
	}
	return cells
}

// mustRun is a field that there must be: another one of the same sides, of two states and packed, and the one that is handed in is as it was.
func mustRun(test *testing.T, l api.Life, t api.Topo, f *field.Field, n int) *field.Field {
	test.Helper()
	was, bits := f.Clone(), f.Packed()
	g, e := packed.Run(l, t, f, n)
	if g == nil || e != api.OK {
		test.Fatalf("Run(%v, %v, %d): %d", l, t, n, e)
	}
	if g == f || g.W() != f.W() || g.H() != f.H() || g.States() != 2 || !g.Packed() {
		test.Fatalf("Run(%v, %v, %d): %d times %d with %d states, packed %v; handed in: %d times %d", l, t, n, g.W(), g.H(), g.States(), g.Packed(), f.W(), f.H())
	}
	if !f.Same(was) || f.Packed() != bits {
		test.Fatalf("Run(%v, %v, %d): what was handed in is another", l, t, n)
	}
	return g
}

// hasCells holds a field against the states that it must have.
func hasCells(test *testing.T, what string, l api.Life, t api.Topo, f *field.Field, want []uint8) {
	test.Helper()
	if got := cellsOf(test, f); !slices.Equal(got, want) {
		test.Errorf("%s: %v on %v: %v, not %v", what, l, t, short(got), short(want))
	}
}

// short is the beginning of a list, as a test tells it.
func short[T any](list []T) []T { return list[:min(len(list), 40)] }
