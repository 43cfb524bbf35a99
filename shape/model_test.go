package shape_test

import (
	"math"
	"slices"
	"sort"
	"testing"

	"vivarium/api"
	"vivarium/iso"
	"vivarium/shape"
)

// The models: a shape as a world (which place has which state), turned by the chapter's table, and moved by trying.

const (
	far  = 1 << 40
	many = 1 << 14
)

// world has the living cells by their places.
type world map[api.Point]uint8

// turns are the linear parts as chapter 5 tells where a place comes to.
var turns = [8]func(x, y int) (int, int){
	func(x, y int) (int, int) { return x, y },
	func(x, y int) (int, int) { return -y, x },
	func(x, y int) (int, int) { return -x, -y },
	func(x, y int) (int, int) { return y, -x },
	func(x, y int) (int, int) { return x, -y },
	func(x, y int) (int, int) { return y, x },
	func(x, y int) (int, int) { return -x, y },
	func(x, y int) (int, int) { return -y, -x },
}

// worldOf are cells that stand at places of their own.
func worldOf(cells ...api.Cell) world {
	w := world{}
	for _, c := range cells {
		if c.State > 0 {
			w[api.Point{X: c.X, Y: c.Y}] = c.State
		}
	}
	return w
}

// shape is the world as a shape.
func (w world) shape() api.Shape {
	var list []api.Cell
	for p, s := range w {
		list = append(list, cell(p.X, p.Y, s))
	}
	sort.Slice(list, func(i, j int) bool {
		return list[i].Y < list[j].Y || list[i].Y == list[j].Y && list[i].X < list[j].X
	})
	return api.Shape{Cells: list}
}

// turned is the world turned by a part, and moved behind it.
func (w world) turned(k, x, y int) world {
	to := world{}
	for p, s := range w {
		u, v := turns[k](p.X, p.Y)
		to[api.Point{X: u + x, Y: v + y}] = s
	}
	return to
}

// is tells whether two worlds are the same.
func (w world) is(o world) bool {
	if len(w) != len(o) {
		return false
	}
	for p, s := range w {
		if o[p] != s {
			return false
		}
	}
	return true
}

// comesTo tells whether a world is another one, moved: a place of it is tried over each of the other's.
func (w world) comesTo(o world) bool {
	if len(w) == 0 || len(w) != len(o) {
		return len(w) == len(o)
	}
	for p := range w {
		for q := range o {
			if w.turned(0, q.X-p.X, q.Y-p.Y).is(o) {
				return true
			}
		}
		break
	}
	return false
}

// parts are what Parts answers.
func (w world) parts() []int {
	var list []int
	for k := range turns {
		if w.turned(k, 0, 0).comesTo(w) {
			list = append(list, k)
		}
	}
	return list
}

// corner is where the box begins, and the place where it ends.
func (w world) corner() (first, last api.Point) {
	first, last = api.Point{X: math.MaxInt, Y: math.MaxInt}, api.Point{X: math.MinInt, Y: math.MinInt}
	for p := range w {
		if p.X < first.X {
			first.X = p.X
		}
		if p.Y < first.Y {
			first.Y = p.Y
		}
		if p.X > last.X {
			last.X = p.X
		}
		if p.Y > last.Y {
			last.Y = p.Y
		}
	}
	return first, last
}

// box is what Box answers.
func (w world) box() (api.Rect, bool) {
	if len(w) == 0 {
		return api.Rect{}, false
	}
	first, last := w.corner()
	return api.Rect{X: first.X, Y: first.Y, W: 1 + last.X - first.X, H: 1 + last.Y - first.Y}, true
}

// ahead tells whether a shape is less than another one of as many cells.
func ahead(a, b api.Shape) bool {
	for i, c := range a.Cells {
		o := b.Cells[i]
		if c.Y != o.Y {
			return c.Y < o.Y
		}
		if c.X != o.X {
			return c.X < o.X
		}
		if c.State != o.State {
			return c.State < o.State
		}
	}
	return false
}

// least is what Least answers, where nothing is far: the shape, the part, and the move behind it.
func (w world) least() (api.Shape, int, api.Point) {
	var best api.Shape
	part, move := -1, api.Point{}
	for k := range turns {
		to, by := w.turned(k, 0, 0), api.Point{}
		if len(w) > 0 {
			first, _ := to.corner()
			by = api.Point{X: -first.X, Y: -first.Y}
		}
		if s := to.turned(0, by.X, by.Y).shape(); part < 0 || ahead(s, best) {
			best, part, move = s, k, by
		}
	}
	return best, part, move
}

// mixed is what Mix answers, where it is not too much.
func mixed(a, b world, how uint8) world {
	to := world{}
	for p, s := range a {
		t, two := b[p]
		switch {
		case !two && how != api.MixAnd, two && (how == api.MixUnder || how == api.MixAnd):
			to[p] = s
		case two && how == api.MixOver:
			to[p] = t
		}
	}
	for p, t := range b {
		if a[p] == 0 && how != api.MixAnd {
			to[p] = t
		}
	}
	return to
}

// hows are the four ways to mix.
var hows = []uint8{api.MixOver, api.MixUnder, api.MixXor, api.MixAnd}

// few are cells that can be told in an error.
func few(s api.Shape) []api.Cell { return s.Cells[:min(len(s.Cells), 40)] }

// alike tells whether two shapes are cell by cell the same.
func alike(a, b api.Shape) bool { return slices.Equal(a.Cells, b.Cells) }

// is looks at a shape that was answered.
func is(t *testing.T, what string, s api.Shape, e api.Errno, want api.Shape) {
	t.Helper()
	if !alike(s, want) || e != api.OK {
		t.Errorf("%s = %v, %d, not %v", what, few(s), e, few(want))
	}
}

// makes looks at cells that make a shape.
func makes(t *testing.T, cells []api.Cell, want ...api.Cell) {
	t.Helper()
	if s, e := shape.Make(cells); !slices.Equal(s.Cells, want) || e != api.OK {
		t.Errorf("Make(%v) = %v, %d, not %v", few(api.Shape{Cells: cells}), few(s), e, few(api.Shape{Cells: want}))
	}
}

// noMake looks at cells that make none.
func noMake(t *testing.T, cells []api.Cell, want api.Errno) {
	t.Helper()
	if s, e := shape.Make(cells); s.Cells != nil || e != want {
		t.Errorf("Make(%v) = %v, %d, not %d", few(api.Shape{Cells: cells}), few(s), e, want)
	}
}

// checks looks at Check.
func checks(t *testing.T, s api.Shape, want api.Errno) {
	t.Helper()
	if e := shape.Check(s); e != want {
		t.Errorf("Check(%v) = %d, not %d", few(s), e, want)
	}
}

// hasBox looks at the box of a shape that has one.
func hasBox(t *testing.T, s api.Shape, want api.Rect) {
	t.Helper()
	if r, has, e := shape.Box(s); r != want || !has || e != api.OK {
		t.Errorf("Box(%v) = %v, %v, %d, not %v", few(s), r, has, e, want)
	}
}

// moves looks at Move of a shape that comes to no far place.
func moves(t *testing.T, s api.Shape, m api.Iso, want api.Shape) {
	t.Helper()
	if to, e := shape.Move(s, m); !alike(to, want) || e != api.OK {
		t.Errorf("Move(%v, %v) = %v, %d, not %v", few(s), m, few(to), e, few(want))
	}
}

// noMove looks at Move's error.
func noMove(t *testing.T, s api.Shape, m api.Iso, want api.Errno) {
	t.Helper()
	if to, e := shape.Move(s, m); to.Cells != nil || e != want {
		t.Errorf("Move(%v, %v) = %v, %d, not %d", few(s), m, few(to), e, want)
	}
}

// mixes looks at Mix.
func mixes(t *testing.T, a, b api.Shape, how uint8, want api.Shape) {
	t.Helper()
	if s, e := shape.Mix(a, b, how); !alike(s, want) || e != api.OK {
		t.Errorf("Mix(%v, %v, %d) = %v, %d, not %v", few(a), few(b), how, few(s), e, few(want))
	}
}

// noMix looks at Mix's error.
func noMix(t *testing.T, a, b api.Shape, how uint8, want api.Errno) {
	t.Helper()
	if s, e := shape.Mix(a, b, how); s.Cells != nil || e != want {
		t.Errorf("Mix(%v, %v, %d) = %v, %d, not %d", few(a), few(b), how, few(s), e, want)
	}
}

// hasParts looks at Parts.
func hasParts(t *testing.T, s api.Shape, want ...int) {
	t.Helper()
	if list, e := shape.Parts(s); !slices.Equal(list, want) || e != api.OK {
		t.Errorf("Parts(%v) = %v, %d, not %v", few(s), list, e, want)
	}
}

// leads looks at Least, the map's noughts too.
func leads(t *testing.T, s, want api.Shape, by api.Iso) {
	t.Helper()
	to, m, e := shape.Least(s)
	if !alike(to, want) || m != by || e != api.OK {
		t.Errorf("Least(%v) = %v, %v, %d, not %v, %v", few(s), few(to), m, e, few(want), by)
	}
	for _, x := range []float64{real(m.Turn), imag(m.Turn), real(m.Move), imag(m.Move)} {
		if x == 0 && math.Signbit(x) {
			t.Errorf("Least(%v): a nought of %v has a sign", few(s), m)
		}
	}
}

// noLeast looks at Least's error.
func noLeast(t *testing.T, s api.Shape, want api.Errno) {
	t.Helper()
	if to, m, e := shape.Least(s); to.Cells != nil || m != (api.Iso{}) || e != want {
		t.Errorf("Least(%v) = %v, %v, %d, not %d", few(s), few(to), m, e, want)
	}
}

// areAlike looks at Alike, either way round.
func areAlike(t *testing.T, a, b api.Shape, want bool) {
	t.Helper()
	for range 2 {
		if got, e := shape.Alike(a, b); got != want || e != api.OK {
			t.Errorf("Alike(%v, %v) = %v, %d", few(a), few(b), got, e)
		}
		a, b = b, a
	}
}

// mustMake is the shape of cells that make one.
func mustMake(t *testing.T, cells ...api.Cell) api.Shape {
	t.Helper()
	s, e := shape.Make(cells)
	if e != api.OK {
		t.Fatalf("Make(%v): %d", few(api.Shape{Cells: cells}), e)
	}
	return s
}

// mustMove is a shape moved by a map.
func mustMove(t *testing.T, s api.Shape, m api.Iso) api.Shape {
	t.Helper()
	to, e := shape.Move(s, m)
	if e != api.OK {
		t.Fatalf("Move(%v, %v): %d", few(s), m, e)
	}
	return to
}

// mustMix are two shapes mixed.
func mustMix(t *testing.T, a, b api.Shape, how uint8) api.Shape {
	t.Helper()
	s, e := shape.Mix(a, b, how)
	if e != api.OK {
		t.Fatalf("Mix(%v, %v, %d): %d", few(a), few(b), how, e)
	}
	return s
}

// mustParts are the parts of a shape.
func mustParts(t *testing.T, s api.Shape) []int {
	t.Helper()
	list, e := shape.Parts(s)
	if e != api.OK {
		t.Fatalf("Parts(%v): %d", few(s), e)
	}
	return list
}

// mustLeast is the one form of a shape, and the map to it.
func mustLeast(t *testing.T, s api.Shape) (api.Shape, api.Iso) {
	t.Helper()
	to, m, e := shape.Least(s)
	if e != api.OK {
		t.Fatalf("Least(%v): %d", few(s), e)
	}
	return to, m
}

// mapOf is the map that turns by a part, and moves behind it.
func mapOf(k, x, y int) api.Iso {
	m, e := iso.Part(k)
	if e != api.OK {
		panic("no part")
	}
	m.Move = complex(float64(x), float64(y))
	return m
}

func cell(x, y int, state uint8) api.Cell { return api.Cell{X: x, Y: y, State: state} }

func of(cells ...api.Cell) api.Shape { return api.Shape{Cells: cells} }

// line is so many living cells of a state in one row, from a place on.
func line(x, y, n int, state uint8) []api.Cell {
	list := make([]api.Cell, n)
	for i := range list {
		list[i] = cell(x+i, y, state)
	}
	return list
}

// glider is the chapter's G.
func glider() api.Shape {
	return of(cell(1, 0, 1), cell(2, 1, 1), cell(0, 2, 1), cell(1, 2, 1), cell(2, 2, 1))
}

// grids goes through all worlds of so many columns and rows with so many states, from (0, 0) on.
func grids(w, h, states int) func(func(world) bool) {
	return func(yield func(world) bool) {
		all := 1
		for range w * h {
			all *= states
		}
		for n := range all {
			o := world{}
			for i, rest := 0, n; rest > 0; i, rest = i+1, rest/states {
				if s := rest % states; s > 0 {
					o[api.Point{X: i % w, Y: i / w}] = uint8(s)
				}
			}
			if !yield(o) {
				return
			}
		}
	}
}

// dice tells numbers that look as if they came by chance, but are the same each time.
type dice uint64

// below is a number from 0 to n - 1.
func (d *dice) below(n int) int {
	*d = *d*6364136223846793005 + 1442695040888963407
	return int(uint64(*d)>>33) % n
}

// one is one of the items of a list.
func one[T any](d *dice, list []T) T { return list[d.below(len(list))] }

// shuffled are the items of a list in another order.
func shuffled[T any](d *dice, list []T) []T {
	list = slices.Clone(list)
	for i := len(list) - 1; i > 0; i-- {
		j := d.below(i + 1)
		list[i], list[j] = list[j], list[i]
	}
	return list
}

// world is one of some cells about (0, 0), sometimes with a symmetry.
func (d *dice) world() world {
	w := world{}
	wide, high, states := 1+d.below(9), 1+d.below(9), one(d, []int{1, 2, 255})
	x, y := d.below(20)-10, d.below(20)-10
	for range d.below(25) {
		w[api.Point{X: x + d.below(wide), Y: y + d.below(high)}] = uint8(1 + d.below(states))
	}
	if d.below(3) == 0 {
		k, u, v := d.below(8), d.below(9)-4, d.below(9)-4
		for range 3 {
			w = mixed(w, w.turned(k, u, v), api.MixOver)
		}
	}
	return w
}

// strewn are the world's cells with some of the state 0 anywhere, in any order.
func (d *dice) strewn(w world) []api.Cell {
	list := w.shape().Cells
	for range d.below(6) {
		list = append(list, cell(d.below(20)-10, d.below(20)-10, 0))
	}
	for range d.below(3) {
		list = append(list, cell(one(d, farNumbers), one(d, farNumbers), 0))
	}
	return shuffled(d, list)
}

// farNumbers are numbers that no place has.
var farNumbers = []int{far + 1, -far - 1, far + 2, 2 * far, -2 * far, 1<<53 + 1, math.MaxInt, math.MinInt, math.MinInt + 1}
