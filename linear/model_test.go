package linear_test

import (
	"math/big"
	"slices"
	"testing"

	"vivarium/api"
	"vivarium/linear"
)

// The models say the chapter's promises once more, by other means than the package: one generation is counted cell by cell by the page's formulas; great numbers of generations are powers of a matrix, squared as any matrix is; a line is a number whose digits in twos are its places.

func at(x, y int) api.Point { return api.Point{X: x, Y: y} }

// places is a list by its numbers.
func places(numbers ...int) []api.Point {
	var list []api.Point
	for i := 0; i < len(numbers); i += 2 {
		list = append(list, at(numbers[i], numbers[i+1]))
	}
	return list
}

// mod is the remainder from 0 on.
func mod(n, side int) int { return (n%side + side) % side }

// modelCell is the number of the cell that a place is, row by row from 0 on: the page's formulas of the torus.
func modelCell(t api.Topo, p api.Point) int {
	u, v := p.X+t.W/2, p.Y+t.H/2
	i, j := (u-mod(u, t.W))/t.W, (v-mod(v, t.H))/t.H
	switch t.Turn {
	case api.TurnWide:
		u -= j * t.Shift
	case api.TurnHigh:
		v -= i * t.Shift
	}
	return mod(v, t.H)*t.W + mod(u, t.W)
}

// modelPlace is the place of the cell with a number.
func modelPlace(t api.Topo, i int) api.Point { return at(i%t.W-t.W/2, i/t.W-t.H/2) }

// allCells are all places of the grid, by rows.
func allCells(t api.Topo) []api.Point {
	var all []api.Point
	for i := range t.W * t.H {
		all = append(all, modelPlace(t, i))
	}
	return all
}

// modelNext is one generation later: a place p lives just if an odd number of the places p + times * d do.
func modelNext(t api.Topo, offsets, cells []api.Point, times int) []api.Point {
	lives := make([]bool, t.W*t.H)
	for _, c := range cells {
		lives[modelCell(t, c)] = true
	}
	var next []api.Point
	for _, p := range allCells(t) {
		odd := false
		for _, d := range offsets {
			odd = odd != lives[modelCell(t, at(p.X+times*d.X, p.Y+times*d.Y))]
		}
		if odd {
			next = append(next, p)
		}
	}
	return next
}

// matrix is what one cell makes of each of at most 64 cells: row i has the bits of those that cell i makes live.
type matrix []uint64

func (m matrix) of(cells uint64) uint64 {
	var next uint64
	for i, row := range m {
		if cells>>i&1 == 1 {
			next ^= row
		}
	}
	return next
}

func (m matrix) times(o matrix) matrix {
	product := make(matrix, len(m))
	for i, row := range m {
		product[i] = o.of(row)
	}
	return product
}

// modelJump is n generations later, of a torus of at most 64 cells.
func modelJump(t api.Topo, offsets, cells []api.Point, n int) []api.Point {
	bits := func(list []api.Point) uint64 {
		var b uint64
		for _, c := range list {
			b |= 1 << modelCell(t, c)
		}
		return b
	}
	step := make(matrix, t.W*t.H)
	for i := range step {
		step[i] = bits(modelNext(t, offsets, []api.Point{modelPlace(t, i)}, 1))
	}
	living := bits(cells)
	for ; n > 0; n >>= 1 {
		if n&1 == 1 {
			living = step.of(living)
		}
		step = step.times(step)
	}
	var list []api.Point
	for i := range t.W * t.H {
		if living>>i&1 == 1 {
			list = append(list, modelPlace(t, i))
		}
	}
	return list
}

// modelTimes counts the pairs of each sum.
func modelTimes(a, b []api.Point) []api.Point {
	pairs := map[api.Point]int{}
	for _, d := range a {
		for _, e := range b {
			pairs[at(d.X+e.X, d.Y+e.Y)]++
		}
	}
	var odd []api.Point
	for p, n := range pairs {
		if n%2 == 1 {
			odd = append(odd, p)
		}
	}
	return sorted(odd)
}

// modelLines are the first generations of a line: the place p of generation n is the digit p + 64 * n.
func modelLines(offsets []int, n int) []*big.Int {
	all := []*big.Int{big.NewInt(1)}
	for range n {
		last, next := all[len(all)-1], new(big.Int)
		for _, d := range offsets {
			next.Xor(next, new(big.Int).Lsh(last, uint(64-d)))
		}
		all = append(all, next)
	}
	return all
}

// modelLine is a place of a generation of modelLines.
func modelLine(lines []*big.Int, n, at int) bool {
	return at >= -64*n && lines[n].Bit(at+64*n) == 1
}

// sorted is a list by rows, of one row from the left.
func sorted(list []api.Point) []api.Point {
	list = slices.Clone(list)
	slices.SortFunc(list, func(a, b api.Point) int {
		if a.Y != b.Y {
			return a.Y - b.Y
		}
		return a.X - b.X
	})
	return list
}

// unlike is what is in just one of two lists, each without a place twice.
func unlike(a, b []api.Point) []api.Point {
	var list []api.Point
	for i, own := range [][]api.Point{a, b} {
		other := [][]api.Point{b, a}[i]
		for _, p := range own {
			if !slices.Contains(other, p) {
				list = append(list, p)
			}
		}
	}
	return sorted(list)
}

// tori are all with sides up to so many: turned one way and the other, by each shift, and not turned.
func tori(most int) []api.Topo {
	var all []api.Topo
	for w := 1; w <= most; w++ {
		for h := 1; h <= most; h++ {
			all = append(all, turned(w, h)...)
		}
	}
	return all
}

// turned are all tori of these sides.
func turned(w, h int) []api.Topo {
	all := []api.Topo{{Kind: api.Torus, W: w, H: h}}
	for shift := 1; shift < w; shift++ {
		all = append(all, api.Topo{Kind: api.Torus, W: w, H: h, Turn: api.TurnWide, Shift: shift}, api.Topo{Kind: api.Torus, W: w, H: h, Turn: api.TurnWide, Shift: -shift})
	}
	for shift := 1; shift < h; shift++ {
		all = append(all, api.Topo{Kind: api.Torus, W: w, H: h, Turn: api.TurnHigh, Shift: shift}, api.Topo{Kind: api.Torus, W: w, H: h, Turn: api.TurnHigh, Shift: -shift})
	}
	return all
}

// someTori are wide and narrow, high and low ones, turned and not, of at most 64 cells.
func someTori() []api.Topo {
	return []api.Topo{
		{Kind: api.Torus, W: 1, H: 1}, {Kind: api.Torus, W: 64, H: 1}, {Kind: api.Torus, W: 1, H: 63}, {Kind: api.Torus, W: 8, H: 8}, {Kind: api.Torus, W: 7, H: 9}, {Kind: api.Torus, W: 9, H: 7}, {Kind: api.Torus, W: 5, H: 12}, {Kind: api.Torus, W: 31, H: 2},
		{Kind: api.Torus, W: 7, H: 9, Turn: api.TurnWide, Shift: 3}, {Kind: api.Torus, W: 9, H: 7, Turn: api.TurnHigh, Shift: -2}, {Kind: api.Torus, W: 8, H: 8, Turn: api.TurnHigh, Shift: 5}, {Kind: api.Torus, W: 8, H: 8, Turn: api.TurnWide, Shift: -7},
		{Kind: api.Torus, W: 31, H: 2, Turn: api.TurnHigh, Shift: 1}, {Kind: api.Torus, W: 31, H: 2, Turn: api.TurnWide, Shift: 30}, {Kind: api.Torus, W: 2, H: 32, Turn: api.TurnWide, Shift: -1}, {Kind: api.Torus, W: 2, H: 32, Turn: api.TurnHigh, Shift: 11},
		{Kind: api.Torus, W: 61, H: 1, Turn: api.TurnWide, Shift: 17}, {Kind: api.Torus, W: 1, H: 61, Turn: api.TurnHigh, Shift: -17},
	}
}

// someOffsets are offsets of few and of many, near and far, that come to one cell on small tori.
func someOffsets() [][]api.Point {
	d := dice(5)
	return [][]api.Point{
		nil,
		places(0, 0),
		places(3, -2),
		places(0, 0, 1, 0),
		places(0, -1, 1, 0, 0, 1, -1, 0),
		places(0, -1, 1, -1, 1, 0, 1, 1, 0, 1, -1, 1, -1, 0, -1, -1),
		places(1, 0, 0, 0, 0, 1),
		places(api.MaxFar, 0, 0, -api.MaxFar, 2, 3),
		places(-api.MaxFar, -api.MaxFar, api.MaxFar, api.MaxFar, api.MaxFar, -api.MaxFar, 1-api.MaxFar, api.MaxFar-1),
		d.offsets(5, 3),
		d.offsets(20, 12),
		d.offsets(64, 6),
		d.offsets(63, api.MaxFar),
		d.offsets(64, api.MaxFar),
	}
}

// dice are numbers drawn at random, the same ones each time.
type dice uint64

// below is a number from 0 to n - 1.
func (d *dice) below(n int) int {
	*d = *d*6364136223846793005 + 1442695040888963407
	high := uint64(*d) >> 33
	*d = *d*6364136223846793005 + 1442695040888963407
	return int((high<<31 | uint64(*d)>>33) % uint64(n))
}

// from is a number from low to high.
func (d *dice) from(low, high int) int { return low + d.below(high-low+1) }

// offsets are so many, none twice, at most so far away.
func (d *dice) offsets(many, far int) []api.Point {
	var list []api.Point
	for len(list) < many {
		if p := at(d.from(-far, far), d.from(-far, far)); !slices.Contains(list, p) {
			list = append(list, p)
		}
	}
	return list
}

// cells are some of a torus, in no order.
func (d *dice) cells(t api.Topo) []api.Point {
	var list []api.Point
	for _, p := range allCells(t) {
		if d.below(2) == 1 {
			list = append(list, p)
		}
	}
	for i := range list {
		j := d.below(i + 1)
		list[i], list[j] = list[j], list[i]
	}
	return list
}

// short is the beginning of a list, as a test tells it.
func short[T any](list []T) []T { return list[:min(len(list), 20)] }

// has holds a list that was answered against the one that it must be.
func has(test *testing.T, what string, got []api.Point, e api.Errno, want []api.Point) {
	test.Helper()
	if e != api.OK || !slices.Equal(got, want) {
		test.Errorf("%s: %v (%d), error %d, not %v (%d)", what, short(got), len(got), e, short(want), len(want))
	}
}

// refused holds an answer against the error that it must be, with no list beside it.
func refused(test *testing.T, what string, got []api.Point, e, want api.Errno) {
	test.Helper()
	if e != want || len(got) > 0 {
		test.Errorf("%s: %v, error %d, not %d", what, short(got), e, want)
	}
}

// mustJump is a list that there must be.
func mustJump(test *testing.T, t api.Topo, offsets, cells []api.Point, n int) []api.Point {
	test.Helper()
	list, e := linear.Jump(t, offsets, cells, n)
	if e != api.OK {
		test.Fatalf("Jump(%v, %v, %v, %d): %d", t, short(offsets), short(cells), n, e)
	}
	return list
}

// mustNext is a list that there must be.
func mustNext(test *testing.T, t api.Topo, offsets, cells []api.Point) []api.Point {
	test.Helper()
	list, e := linear.Next(t, offsets, cells)
	if e != api.OK {
		test.Fatalf("Next(%v, %v, %v): %d", t, short(offsets), short(cells), e)
	}
	return list
}
