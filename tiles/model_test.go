package tiles_test

import (
	"math"
	"slices"
	"testing"

	"vivarium/api"
	"vivarium/field"
	"vivarium/rule"
	"vivarium/step"
	"vivarium/table"
	"vivarium/tiles"
	"vivarium/topo"
)

// The model: cells in a list, in home numbers, one generation as the page says it, without ring, fold and hood; what is fresh is told of each cell, and what is stirred is counted cell by cell, as the chapter's Words have it.

func at(x, y int) api.Point { return api.Point{X: x, Y: y} }

// mod is the remainder from 0 on.
func mod(n, side int) int { return (n%side + side) % side }

// over is n divided by the side, rounded down.
func over(n, side int) int { return (n - mod(n, side)) / side }

// modelCell is the cell that (u, v) is; false: none.
func modelCell(t api.Topo, u, v int) (api.Point, bool) {
	if 0 <= u && u < t.W && 0 <= v && v < t.H {
		return at(u, v), true
	}
	switch t.Kind {
	case api.Plane:
		return api.Point{}, false
	case api.Sphere:
		return modelSphere(t.W, u, v), true
	}
	i, j := over(u, t.W), over(v, t.H)
	x, y := mod(u, t.W), mod(v, t.H)
	switch {
	case t.Kind == api.Torus && t.Turn == api.TurnWide:
		x = mod(u-j*t.Shift, t.W)
	case t.Kind == api.Torus && t.Turn == api.TurnHigh:
		y = mod(v-i*t.Shift, t.H)
	case t.Kind == api.Klein && t.Turn == api.TurnWide && mod(j, 2) == 1:
		x = mod(t.W-1-u+t.Shift, t.W)
	case t.Kind == api.Klein && t.Turn == api.TurnHigh && mod(i, 2) == 1:
		y = mod(t.H-1-v+t.Shift, t.H)
	case t.Kind == api.Cross:
		if mod(j, 2) == 1 {
			x = t.W - 1 - x
		}
		if mod(i, 2) == 1 {
			y = t.H - 1 - y
		}
	}
	return at(x, y), true
}

// modelSphere is the page's table, of the ring alone.
func modelSphere(n, u, v int) api.Point {
	switch (api.Point{X: u, Y: v}) {
	case at(-1, -1):
		return at(0, 0)
	case at(n, n):
		return at(n-1, n-1)
	case at(n, -1):
		return at(0, n-1)
	case at(-1, n):
		return at(n-1, 0)
	case at(u, -1):
		return at(0, u)
	case at(-1, v):
		return at(v, 0)
	case at(u, n):
		return at(n-1, u)
	}
	return at(v, n-1)
}

var hoods = []uint8{api.Moore, api.Neumann, api.Hex}

// offsets are chapter 7's.
var offsets = map[uint8][]api.Point{
	api.Moore:   {at(0, -1), at(1, -1), at(1, 0), at(1, 1), at(0, 1), at(-1, 1), at(-1, 0), at(-1, -1)},
	api.Neumann: {at(0, -1), at(1, 0), at(0, 1), at(-1, 0)},
	api.Hex:     {at(0, -1), at(1, 0), at(1, 1), at(0, 1), at(-1, 0), at(-1, -1)},
}

// statesOf and hoodOf are a rule's, by its fields.
func statesOf(r api.Rule) int {
	if r.Kind == api.KindTable {
		return r.Table.States
	}
	return r.Gens.States
}

func hoodOf(r api.Rule) uint8 {
	if r.Kind == api.KindTable {
		return r.Table.Hood
	}
	return r.Gens.Life.Hood
}

// modelNext is what a rule says that may be; of a table it is what rule.Next says of it.
func modelNext(r api.Rule, centre uint8, around []uint8) uint8 {
	if r.Kind == api.KindTable {
		next, e := rule.Next(r, centre, around)
		if e != api.OK {
			panic(e)
		}
		return next
	}
	ones := 0
	for _, state := range around {
		if state == 1 {
			ones++
		}
	}
	switch {
	case centre == 0:
		return uint8(r.Gens.Life.Born >> ones & 1)
	case centre == 1 && r.Gens.Life.Stay>>ones&1 == 1:
		return 1
	}
	return uint8((int(centre) + 1) % r.Gens.States)
}

// lookup is for each cell, by its number, the cells that the places about it are, in a neighbourhood's order; -1: none.
func lookup(t api.Topo, near uint8) [][]int {
	all := make([][]int, t.W*t.H)
	for i := range all {
		for _, d := range offsets[near] {
			number := -1
			if p, is := modelCell(t, i%t.W+d.X, i/t.W+d.Y); is {
				number = p.Y*t.W + p.X
			}
			all[i] = append(all[i], number)
		}
	}
	return all
}

// model is what a board must be.
type model struct {
	r            api.Rule
	t            api.Topo
	cells        []uint8
	fresh        []bool
	near, beside [][]int // by the rule's neighbourhood; all eight
	gen, stirred int
}

func newModel(r api.Rule, t api.Topo, cells []uint8) *model {
	return &model{r: r, t: t, cells: slices.Clone(cells), fresh: make([]bool, len(cells)), near: lookup(t, hoodOf(r)), beside: lookup(t, api.Moore)}
}

// set gives a cell a state.
func (m *model) set(x, y int, state uint8) {
	i := y*m.t.W + x
	m.fresh[i] = m.fresh[i] || m.cells[i] != state
	m.cells[i] = state
}

// columns is how many columns of tiles there are, tiles how many in all.
func (m *model) columns() int { return (m.t.W + 15) / 16 }

func (m *model) tiles() int { return m.columns() * ((m.t.H + 15) / 16) }

// countStirred is how many tiles are stirred in the next generation.
func (m *model) countStirred() int {
	if m.gen == 0 {
		return m.tiles()
	}
	tiles := map[int]bool{}
	for i := range m.cells {
		is := m.fresh[i]
		for _, j := range m.beside[i] {
			is = is || j >= 0 && m.fresh[j]
		}
		if is {
			tiles[i/m.t.W/16*m.columns()+i%m.t.W/16] = true
		}
	}
	return len(tiles)
}

// step goes n generations on.
func (m *model) step(n int) {
	for range n {
		m.stirred = m.countStirred()
		next, fresh := make([]uint8, len(m.cells)), make([]bool, len(m.cells))
		for i, state := range m.cells {
			around := make([]uint8, len(m.near[i]))
			for k, j := range m.near[i] {
				if j >= 0 {
					around[k] = m.cells[j]
				}
			}
			next[i] = modelNext(m.r, state, around)
			fresh[i] = next[i] != state
		}
		m.cells, m.fresh, m.gen = next, fresh, m.gen+1
	}
}

// pair is a board with what it must be.
type pair struct {
	t *testing.T
	b *tiles.Board
	m *model
}

// newPair is a board of these cells at the generation 0.
func newPair(t *testing.T, r api.Rule, a api.Topo, cells []uint8, packed bool, workers int) pair {
	t.Helper()
	f := made(t, a.W, a.H, statesOf(r), packed, cells)
	return pair{t, mustNew(t, r, a, f, workers), newModel(r, a, cells)}
}

// step goes n generations on, and looks.
func (p pair) step(n int) {
	p.t.Helper()
	if e := p.b.Step(n); e != api.OK {
		p.t.Fatalf("%v on %v: Step(%d): %d", brief(p.m.r), p.m.t, n, e)
	}
	p.m.step(n)
	p.look()
}

// set gives a cell a state; what comes of it is looked at behind the next step.
func (p pair) set(x, y int, state uint8) {
	p.t.Helper()
	if e := p.b.Set(x, y, state); e != api.OK {
		p.t.Fatalf("%v on %v: Set(%d, %d, %d): %d", brief(p.m.r), p.m.t, x, y, state, e)
	}
	p.m.set(x, y, state)
}

// look holds all that a board tells against what it must be.
func (p pair) look() {
	p.t.Helper()
	m := p.m
	if got := cellsOf(p.t, fieldOf(p.t, p.b)); !slices.Equal(got, m.cells) {
		p.t.Fatalf("%v on %v, generation %d: %v, not %v", brief(m.r), m.t, m.gen, short(got), short(m.cells))
	}
	if p.b.Gen() != m.gen || p.b.Tiles() != m.tiles() || p.b.Stirred() != m.stirred {
		p.t.Fatalf("%v on %v: generation %d, %d of %d tiles stirred; not %d, %d of %d", brief(m.r), m.t, p.b.Gen(), p.b.Stirred(), p.b.Tiles(), m.gen, m.stirred, m.tiles())
	}
}

// mustNew is a board that there must be.
func mustNew(t *testing.T, r api.Rule, a api.Topo, f *field.Field, workers int) *tiles.Board {
	t.Helper()
	b, e := tiles.New(r, a, f, workers)
	if b == nil || e != api.OK {
		t.Fatalf("New(%v, %v, %d workers): %d", brief(r), a, workers, e)
	}
	return b
}

// fieldOf is a board's field, which there must be.
func fieldOf(t *testing.T, b *tiles.Board) *field.Field {
	t.Helper()
	f, e := b.Field()
	if f == nil || e != api.OK {
		t.Fatalf("Field: %d", e)
	}
	return f
}

// mustStep goes on, which must be allowed.
func mustStep(t *testing.T, b *tiles.Board, n int) {
	t.Helper()
	if e := b.Step(n); e != api.OK {
		t.Fatalf("Step(%d): %d", n, e)
	}
}

// mustSet sets a cell, which must be allowed.
func mustSet(t *testing.T, b *tiles.Board, x, y int, state uint8) {
	t.Helper()
	if e := b.Set(x, y, state); e != api.OK {
		t.Fatalf("Set(%d, %d, %d): %d", x, y, state, e)
	}
}

// mustRun is step.Run's field.
func mustRun(t *testing.T, r api.Rule, a api.Topo, f *field.Field, n int) *field.Field {
	t.Helper()
	g, e := step.Run(r, a, f, n)
	if g == nil || e != api.OK {
		t.Fatalf("Run(%v, %v, %d): %d", brief(r), a, n, e)
	}
	return g
}

// turned are the topologies of a kind and its sides that may be, with these shifts.
func turned(kind uint8, w, h int, shifts ...int) []api.Topo {
	slices.Sort(shifts)
	var all []api.Topo
	for turn := api.TurnNone; turn <= api.TurnHigh; turn++ {
		for _, shift := range slices.Compact(shifts) {
			t := api.Topo{Kind: kind, W: w, H: h, Turn: turn, Shift: shift}
			if topo.Check(t) == api.OK {
				all = append(all, t)
			}
		}
	}
	return all
}

// someOf are topologies of each kind with these sides, turned one way and the other, with a shift and without.
func someOf(w, h int) []api.Topo {
	var all []api.Topo
	for kind := api.Plane; kind <= api.Sphere; kind++ {
		all = append(all, turned(kind, w, h, 0, 1, -(h/2), w-1)...)
	}
	return all
}

// everySide are sides of one tile, of tiles that are cut off at the right, at the bottom or at both, of whole tiles, of one column and of one row.
var everySide = [][2]int{{1, 1}, {2, 2}, {3, 5}, {15, 15}, {16, 16}, {17, 17}, {17, 16}, {16, 17}, {32, 16}, {16, 32}, {33, 18}, {20, 35}, {34, 34}, {1, 40}, {40, 1}, {1, 16}, {17, 1}, {2, 33}}

// births is a rule of KindLife, fading one of KindGens, tabled one of KindTable.
func births(near uint8, born, stay uint16) api.Rule {
	return api.Rule{Kind: api.KindLife, Gens: api.Gens{Life: api.Life{Hood: near, Born: born, Stay: stay}, States: 2}}
}

func fading(near uint8, born, stay uint16, states int) api.Rule {
	return api.Rule{Kind: api.KindGens, Gens: api.Gens{Life: api.Life{Hood: near, Born: born, Stay: stay}, States: states}}
}

func tabled(k api.Table) api.Rule { return api.Rule{Kind: api.KindTable, Name: "t", Table: k} }

// conway is B3/S23.
func conway() api.Rule { return births(api.Moore, 1<<3, 1<<2|1<<3) }

// still is a rule of so many states by which no cell ever changes.
func still(near uint8, states int) api.Rule {
	return tabled(api.Table{States: states, Hood: near})
}

// blinking is a rule by which each cell changes in each generation.
func blinking(near uint8) api.Rule { return births(near, 1<<(len(offsets[near])+1)-1, 0) }

// st is the term of a state, va that of a variable.
func st(state uint8) api.Term { return api.Term{State: state, Var: -1} }

func va(number int) api.Term { return api.Term{Var: number} }

// wind is a table in which a cell becomes what its neighbour with this number is: it tells which neighbour is which.
func wind(near uint8, number, states int) api.Rule {
	k := api.Table{States: states, Hood: near}
	row := api.Trans{Centre: va(0), Out: va(1 + number)}
	for i := range len(offsets[near]) + 1 {
		v := api.Var{Name: "abcdefghi"[i : i+1]}
		for state := range states {
			v.States = append(v.States, uint8(state))
		}
		k.Vars = append(k.Vars, v)
	}
	for i := range offsets[near] {
		row.Around = append(row.Around, va(1+i))
	}
	k.Rows = []api.Trans{row}
	return tabled(k)
}

// dice are numbers drawn at random, the same ones each time.
type dice uint64

// below is a number from 0 to n - 1.
func (d *dice) below(n int) int {
	*d = *d*6364136223846793005 + 1442695040888963407
	return int(uint64(*d)>>33) % n
}

// cells are states drawn at random.
func (d *dice) cells(n, states int) []uint8 {
	cells := make([]uint8, n)
	for i := range cells {
		cells[i] = uint8(d.below(states))
	}
	return cells
}

// few are states of which about one in so many is not 0.
func (d *dice) few(n, states, oneOf int) []uint8 {
	cells := make([]uint8, n)
	for i := range cells {
		if d.below(oneOf) == 0 {
			cells[i] = uint8(1 + d.below(states-1))
		}
	}
	return cells
}

// counts are numbers of neighbours drawn at random, as bits.
func (d *dice) counts(near uint8) uint16 {
	return uint16(d.below(1 << (len(offsets[near]) + 1)))
}

// some are states, rising, one at least.
func (d *dice) some(states int) []uint8 {
	list := d.cells(1+d.below(states), states)
	slices.Sort(list)
	return slices.Compact(list)
}

// table is a rule of KindTable that may be, of so many rows, with two to four variables.
func (d *dice) table(symmetry, near uint8, states, rows int) api.Rule {
	k := api.Table{States: states, Hood: near, Symmetry: symmetry}
	for i := range 2 + d.below(3) {
		k.Vars = append(k.Vars, api.Var{Name: "abcd"[i : i+1], States: d.some(states)})
	}
	for range rows {
		k.Rows = append(k.Rows, d.row(k))
	}
	return tabled(k)
}

// row is one that may be in the table; what comes out is a state, or a term of the row.
func (d *dice) row(k api.Table) api.Trans {
	terms := []api.Term{}
	for range len(offsets[k.Hood]) + 1 {
		if d.below(3) == 0 {
			terms = append(terms, st(uint8(d.below(k.States))))
		} else {
			terms = append(terms, va(d.below(len(k.Vars))))
		}
	}
	out := append(slices.Clone(terms), st(uint8(d.below(k.States))))
	return api.Trans{Centre: terms[0], Around: terms[1:], Out: out[d.below(len(out))]}
}

// function is a table in which each argument of a function of two states, drawn at random, has a row of its own.
func (d *dice) function(near uint8) api.Rule {
	k := api.Table{States: 2, Hood: near}
	size := len(offsets[near])
	for argument := range 1 << (size + 1) {
		row := api.Trans{Centre: st(uint8(argument & 1)), Out: st(uint8(d.below(2)))}
		for i := range size {
			row.Around = append(row.Around, st(uint8(argument>>(i+1)&1)))
		}
		k.Rows = append(k.Rows, row)
	}
	return tabled(k)
}

// symmetries are those of a neighbourhood.
func symmetries(near uint8) []uint8 {
	var all []uint8
	for s := range uint8(11) {
		if _, e := table.Group(s, near); e == api.OK {
			all = append(all, s)
		}
	}
	return all
}

// rulesOf are rules of each kind with a neighbourhood: of births and stays, loud ones and quiet ones; fading; tables with each symmetry, ones that tell the neighbours apart, and functions told row by row.
func rulesOf(near uint8) []api.Rule {
	d := dice(3 + uint64(near))
	all := []api.Rule{births(near, 1<<2, 1<<1|1<<2), births(near, 1, 1<<len(offsets[near])), births(near, d.counts(near), d.counts(near)), blinking(near)}
	for _, states := range []int{2, 3, 5, 256} {
		all = append(all, fading(near, d.counts(near), d.counts(near), states))
	}
	for _, s := range symmetries(near) {
		all = append(all, d.table(s, near, 2+d.below(4), 5))
	}
	for number := range offsets[near] {
		all = append(all, wind(near, number, 4))
	}
	return append(all, d.function(near), still(near, 256))
}

// allRules are those of the three neighbourhoods.
func allRules() []api.Rule {
	return slices.Concat(rulesOf(api.Moore), rulesOf(api.Neumann), rulesOf(api.Hex))
}

// fewRules are one or two of each kind, the neighbourhoods by turns.
func fewRules() []api.Rule {
	d := dice(11)
	return []api.Rule{conway(), births(api.Hex, 1|1<<2, 1<<3), fading(api.Neumann, 1<<1, 1<<2, 3), fading(api.Moore, 1<<2, 1<<3|1<<4, 5),
		d.table(api.SymNone, api.Moore, 3, 6), d.table(api.SymReflect, api.Neumann, 4, 6), d.table(api.SymRotate6, api.Hex, 3, 6), d.table(api.SymPermute, api.Neumann, 3, 6),
		wind(api.Hex, 2, 3), d.function(api.Neumann)}
}

// copied is the same rule in memory of its own.
func copied(r api.Rule) api.Rule {
	r.Table.Vars, r.Table.Rows = slices.Clone(r.Table.Vars), slices.Clone(r.Table.Rows)
	for i, v := range r.Table.Vars {
		r.Table.Vars[i].States = slices.Clone(v.States)
	}
	for i, row := range r.Table.Rows {
		r.Table.Rows[i].Around = slices.Clone(row.Around)
	}
	return r
}

// made is a field whose cells have these states, row by row.
func made(t *testing.T, w, h, states int, packed bool, cells []uint8) *field.Field {
	t.Helper()
	f, e := field.New(w, h, states, packed)
	if e != api.OK || len(cells) != w*h {
		t.Fatalf("New(%d, %d, %d, %v): %d, %d cells", w, h, states, packed, e, len(cells))
	}
	for y := range h {
		if e := f.Lay(y, cells[y*w:(y+1)*w]); e != api.OK {
			t.Fatalf("Lay(%d): %d", y, e)
		}
	}
	return f
}

// blank is a field of two states in which nothing lives.
func blank(t *testing.T, w, h int) *field.Field {
	t.Helper()
	return made(t, w, h, 2, false, make([]uint8, w*h))
}

// cellsOf are a field's states, row by row.
func cellsOf(t *testing.T, f *field.Field) []uint8 {
	t.Helper()
	var cells []uint8
	for y := range f.H() {
		line, e := f.Line(y)
		if e != api.OK {
			t.Fatalf("Line(%d): %d", y, e)
		}
		cells = append(cells, line...)
	}
	return cells
}

// brief is a rule as a test tells it.
func brief(r api.Rule) api.Rule {
	if len(r.Table.Rows) > 8 {
		r.Table.Rows = r.Table.Rows[:8]
	}
	return r
}

// short is the beginning of a list, as a test tells it.
func short[T any](list []T) []T { return list[:min(len(list), 40)] }

// beyond are numbers outside of 0 to n - 1, the next ones first.
func beyond(n int) []int {
	return []int{-1, n, n + 1, -2, -n - 1, 1 << 32, -1 << 32, math.MaxInt, math.MaxInt - 1, math.MinInt, math.MinInt + 1}
}
