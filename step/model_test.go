package step_test

import (
	"slices"
	"testing"

	"vivarium/api"
	"vivarium/field"
	"vivarium/ring"
	"vivarium/rule"
	"vivarium/step"
	"vivarium/table"
	"vivarium/topo"
)

// The model: one generation as the page says it, cell by cell, in home numbers, without ring, fold and hood. What a rule of births and stays says is counted anew; what a table says is what rule.Next says of it, as the chapter has it.

func at(x, y int) api.Point { return api.Point{X: x, Y: y} }

// mod is the remainder from 0 on.
func mod(n, side int) int { return (n%side + side) % side }

// tiles is n divided by the side, rounded down.
func tiles(n, side int) int { return (n - mod(n, side)) / side }

// modelCell is the cell that (u, v) is; false: none.
func modelCell(t api.Topo, u, v int) (api.Point, bool) {
	if 0 <= u && u < t.W && 0 <= v && v < t.H {
		return at(u, v), true
	}
	switch t.Kind {
	case api.Plane:
		return api.Point{}, false
	case api.Sphere:
		return modelSphere(t.W, u, v), true
	}
	i, j := tiles(u, t.W), tiles(v, t.H)
	x, y := mod(u, t.W), mod(v, t.H)
	switch {
	case t.Kind == api.Torus && t.Turn == api.TurnWide:
		x = mod(u-j*t.Shift, t.W)
	case t.Kind == api.Torus && t.Turn == api.TurnHigh:
		y = mod(v-i*t.Shift, t.H)
	case t.Kind == api.Klein && t.Turn == api.TurnWide && mod(j, 2) == 1:
		x = mod(t.W-1-u+t.Shift, t.W)
	case t.Kind == api.Klein && t.Turn == api.TurnHigh && mod(i, 2) == 1:
		y = mod(t.H-1-v+t.Shift, t.H)
	case t.Kind == api.Cross:
		if mod(j, 2) == 1 {
			x = t.W - 1 - x
		}
		if mod(i, 2) == 1 {
			y = t.H - 1 - y
		}
	}
	return at(x, y), true
}

// modelSphere is the page's table, of the ring alone.
func modelSphere(n, u, v int) api.Point {
	switch (api.Point{X: u, Y: v}) {
	case at(-1, -1):
		return at(0, 0)
	case at(n, n):
		return at(n-1, n-1)
	case at(n, -1):
		return at(0, n-1)
	case at(-1, n):
		return at(n-1, 0)
	case at(u, -1):
		return at(0, u)
	case at(-1, v):
		return at(v, 0)
	case at(u, n):
		return at(n-1, u)
	}
	return at(v, n-1)
}

var hoods = []uint8{api.Moore, api.Neumann, api.Hex}

// offsets are chapter 7's.
var offsets = map[uint8][]api.Point{
	api.Moore:   {at(0, -1), at(1, -1), at(1, 0), at(1, 1), at(0, 1), at(-1, 1), at(-1, 0), at(-1, -1)},
	api.Neumann: {at(0, -1), at(1, 0), at(0, 1), at(-1, 0)},
	api.Hex:     {at(0, -1), at(1, 0), at(1, 1), at(0, 1), at(-1, 0), at(-1, -1)},
}

// statesOf and hoodOf are a rule's, by its fields.
func statesOf(r api.Rule) int {
	if r.Kind == api.KindTable {
		return r.Table.States
	}
	return r.Gens.States
}

func hoodOf(r api.Rule) uint8 {
	if r.Kind == api.KindTable {
		return r.Table.Hood
	}
	return r.Gens.Life.Hood
}

// modelNext is what a rule says that may be.
func modelNext(r api.Rule, centre uint8, around []uint8) uint8 {
	if r.Kind == api.KindTable {
		next, e := rule.Next(r, centre, around)
		if e != api.OK {
			panic(e)
		}
		return next
	}
	ones := 0
	for _, state := range around {
		if state == 1 {
			ones++
		}
	}
	switch {
	case centre == 0:
		return uint8(r.Gens.Life.Born >> ones & 1)
	case centre == 1 && r.Gens.Life.Stay>>ones&1 == 1:
		return 1
	}
	return uint8((int(centre) + 1) % r.Gens.States)
}

// modelAround are the states of a cell's neighbours on a grid, in their order.
func modelAround(t api.Topo, near uint8, cells []uint8, x, y int) []uint8 {
	var around []uint8
	for _, d := range offsets[near] {
		state := uint8(0)
		if p, is := modelCell(t, x+d.X, y+d.Y); is {
			state = cells[p.Y*t.W+p.X]
		}
		around = append(around, state)
	}
	return around
}

// modelRun are the cells n generations later, row by row.
func modelRun(r api.Rule, t api.Topo, cells []uint8, n int) []uint8 {
	for range n {
		next := make([]uint8, len(cells))
		for i, state := range cells {
			next[i] = modelNext(r, state, modelAround(t, hoodOf(r), cells, i%t.W, i/t.W))
		}
		cells = next
	}
	return cells
}

// grids are all topologies with two ends each way, of sides up to so many, that may be: each kind, turned one way and the other, with each shift and without.
func grids(most int) []api.Topo {
	var all []api.Topo
	for kind := api.Plane; kind <= api.Sphere; kind++ {
		for w := 1; w <= most; w++ {
			for h := 1; h <= most; h++ {
				all = append(all, turned(kind, w, h, -most, most)...)
			}
		}
	}
	return all
}

// turned are the topologies of a kind and its sides that may be, with the shifts from low to high.
func turned(kind uint8, w, h, low, high int) []api.Topo {
	var all []api.Topo
	for turn := api.TurnNone; turn <= api.TurnHigh; turn++ {
		for shift := low; shift <= high; shift++ {
			t := api.Topo{Kind: kind, W: w, H: h, Turn: turn, Shift: shift}
			if topo.Check(t) == api.OK {
				all = append(all, t)
			}
		}
	}
	return all
}

// someOf are topologies of each kind with these sides, with the least and the greatest shifts and some between.
func someOf(w, h int) []api.Topo {
	shifts := []int{-1, 0, 1, w - 1, 1 - w, h - 1, 1 - h, w / 2, -(h / 2)}
	slices.Sort(shifts)
	var all []api.Topo
	for kind := api.Plane; kind <= api.Sphere; kind++ {
		for _, shift := range slices.Compact(shifts) {
			all = append(all, turned(kind, w, h, shift, shift)...)
		}
	}
	return all
}

// unlikeSides are grids of each kind whose sides are longer, most of them unlike.
func unlikeSides() []api.Topo {
	return slices.Concat(someOf(7, 4), someOf(4, 7), someOf(1, 6), someOf(6, 1), someOf(2, 5), someOf(6, 6))
}

// births is a rule of KindLife, fading one of KindGens, tabled one of KindTable.
func births(near uint8, born, stay uint16) api.Rule {
	return api.Rule{Kind: api.KindLife, Gens: api.Gens{Life: api.Life{Hood: near, Born: born, Stay: stay}, States: 2}}
}

func fading(near uint8, born, stay uint16, states int) api.Rule {
	return api.Rule{Kind: api.KindGens, Gens: api.Gens{Life: api.Life{Hood: near, Born: born, Stay: stay}, States: states}}
}

func tabled(k api.Table) api.Rule { return api.Rule{Kind: api.KindTable, Name: "t", Table: k} }

// conway is B3/S23.
func conway() api.Rule { return births(api.Moore, 1<<3, 1<<2|1<<3) }

// st is the term of a state, va that of a variable.
func st(state uint8) api.Term { return api.Term{State: state, Var: -1} }

func va(number int) api.Term { return api.Term{Var: number} }

// wind is a table in which a cell becomes what its neighbour with this number is: it tells which neighbour is which.
func wind(near uint8, number, states int) api.Rule {
	k := api.Table{States: states, Hood: near}
	row := api.Trans{Centre: va(0), Out: va(1 + number)}
	for i := range len(offsets[near]) + 1 {
		v := api.Var{Name: "abcdefghi"[i : i+1]}
		for state := range states {
			v.States = append(v.States, uint8(state))
		}
		k.Vars = append(k.Vars, v)
	}
	for i := range offsets[near] {
		row.Around = append(row.Around, va(1+i))
	}
	k.Rows = []api.Trans{row}
	return tabled(k)
}

// dice are numbers drawn at random, the same ones each time.
type dice uint64

// below is a number from 0 to n - 1.
func (d *dice) below(n int) int {
	*d = *d*6364136223846793005 + 1442695040888963407
	return int(uint64(*d)>>33) % n
}

// cells are states drawn at random.
func (d *dice) cells(n, states int) []uint8 {
	cells := make([]uint8, n)
	for i := range cells {
		cells[i] = uint8(d.below(states))
	}
	return cells
}

// frame is a frame of states drawn at random, which need not be those of any grid.
func (d *dice) frame(w, h, states int) api.Frame {
	return api.Frame{W: w, H: h, Cells: d.cells((w+2)*(h+2), states)}
}

// counts are numbers of neighbours drawn at random, as bits.
func (d *dice) counts(near uint8) uint16 {
	return uint16(d.below(1 << (len(offsets[near]) + 1)))
}

// some are states, rising, one at least.
func (d *dice) some(states int) []uint8 {
	list := d.cells(1+d.below(states), states)
	slices.Sort(list)
	return slices.Compact(list)
}

// table is a rule of KindTable that may be, of so many rows, with two to four variables.
func (d *dice) table(symmetry, near uint8, states, rows int) api.Rule {
	k := api.Table{States: states, Hood: near, Symmetry: symmetry}
	for i := range 2 + d.below(3) {
		k.Vars = append(k.Vars, api.Var{Name: "abcd"[i : i+1], States: d.some(states)})
	}
	for range rows {
		k.Rows = append(k.Rows, d.row(k))
	}
	return tabled(k)
}

// row is one that may be in the table; what comes out is a state, or a term of the row.
func (d *dice) row(k api.Table) api.Trans {
	terms := []api.Term{}
	for range len(offsets[k.Hood]) + 1 {
		if d.below(3) == 0 {
			terms = append(terms, st(uint8(d.below(k.States))))
		} else {
			terms = append(terms, va(d.below(len(k.Vars))))
		}
	}
	out := append(slices.Clone(terms), st(uint8(d.below(k.States))))
	return api.Trans{Centre: terms[0], Around: terms[1:], Out: out[d.below(len(out))]}
}

// function is a table in which each argument of a function of two states, drawn at random, has a row of its own.
func (d *dice) function(near uint8) api.Rule {
	k := api.Table{States: 2, Hood: near}
	size := len(offsets[near])
	for argument := range 1 << (size + 1) {
		row := api.Trans{Centre: st(uint8(argument & 1)), Out: st(uint8(d.below(2)))}
		for i := range size {
			row.Around = append(row.Around, st(uint8(argument>>(i+1)&1)))
		}
		k.Rows = append(k.Rows, row)
	}
	return tabled(k)
}

// symmetries are those of a neighbourhood.
func symmetries(near uint8) []uint8 {
	var all []uint8
	for s := range uint8(11) {
		if _, e := table.Group(s, near); e == api.OK {
			all = append(all, s)
		}
	}
	return all
}

// rulesOf are rules of each kind with a neighbourhood: of births and stays, loud ones and quiet ones; fading; tables with each symmetry, ones that tell the neighbours apart, and functions told row by row.
func rulesOf(near uint8) []api.Rule {
	d := dice(3 + uint64(near))
	all := []api.Rule{births(near, 1<<2, 1<<1|1<<2), births(near, 1, 1<<len(offsets[near])), births(near, d.counts(near), d.counts(near)), births(near, d.counts(near)|1, d.counts(near))}
	for _, states := range []int{2, 3, 5, 256} {
		all = append(all, fading(near, d.counts(near), d.counts(near), states))
	}
	for _, s := range symmetries(near) {
		all = append(all, d.table(s, near, 2+d.below(4), 5))
	}
	for number := range offsets[near] {
		all = append(all, wind(near, number, 4))
	}
	return append(all, d.function(near), tabled(api.Table{States: 256, Hood: near}))
}

// allRules are those of the three neighbourhoods.
func allRules() []api.Rule {
	return slices.Concat(rulesOf(api.Moore), rulesOf(api.Neumann), rulesOf(api.Hex))
}

// fewRules are one or two of each kind, the neighbourhoods by turns.
func fewRules() []api.Rule {
	d := dice(11)
	return []api.Rule{conway(), births(api.Hex, 1|1<<2, 1<<3), fading(api.Neumann, 1<<1, 1<<2, 3), fading(api.Moore, 1<<2, 1<<3|1<<4, 5),
		d.table(api.SymNone, api.Moore, 3, 6), d.table(api.SymReflect, api.Neumann, 4, 6), d.table(api.SymRotate6, api.Hex, 3, 6), d.table(api.SymPermute, api.Neumann, 3, 6),
		wind(api.Hex, 2, 3), d.function(api.Neumann)}
}

// quiet tells whether a rule leaves empty space empty.
func quiet(r api.Rule) bool {
	return modelNext(r, 0, make([]uint8, len(offsets[hoodOf(r)]))) == 0
}

// copied is the same rule in memory of its own.
func copied(r api.Rule) api.Rule {
	r.Table.Vars, r.Table.Rows = slices.Clone(r.Table.Vars), slices.Clone(r.Table.Rows)
	for i, v := range r.Table.Vars {
		r.Table.Vars[i].States = slices.Clone(v.States)
	}
	for i, row := range r.Table.Rows {
		r.Table.Rows[i].Around = slices.Clone(row.Around)
	}
	return r
}

// made is a field whose cells have these states, row by row.
func made(t *testing.T, w, h, states int, packed bool, cells []uint8) *field.Field {
	t.Helper()
	f, e := field.New(w, h, states, packed)
	if e != api.OK || len(cells) != w*h {
		t.Fatalf("New(%d, %d, %d, %v): %d, %d cells", w, h, states, packed, e, len(cells))
	}
	for y := range h {
		if e := f.Lay(y, cells[y*w:(y+1)*w]); e != api.OK {
			t.Fatalf("Lay(%d): %d", y, e)
		}
	}
	return f
}

// drawn is a picture as a field of two states: a letter o is a living cell.
func drawn(t *testing.T, packed bool, lines ...string) *field.Field {
	t.Helper()
	var cells []uint8
	for _, line := range lines {
		for _, letter := range []byte(line) {
			state := uint8(0)
			if letter == 'o' {
				state = 1
			}
			cells = append(cells, state)
		}
	}
	return made(t, len(lines[0]), len(lines), 2, packed, cells)
}

// cellsOf are a field's states, row by row.
func cellsOf(t *testing.T, f *field.Field) []uint8 {
	t.Helper()
	var cells []uint8
	for y := range f.H() {
		line, e := f.Line(y)
		if e != api.OK {
			t.Fatalf("Line(%d): %d", y, e)
		}
		cells = append(cells, line...)
	}
	return cells
}

// mustRun is a field that there must be: another one of the same sides, states and packing, and the one that is handed in is as it was.
func mustRun(test *testing.T, r api.Rule, t api.Topo, f *field.Field, n int) *field.Field {
	test.Helper()
	was, packed := f.Clone(), f.Packed()
	g, e := step.Run(r, t, f, n)
	if g == nil || e != api.OK {
		test.Fatalf("Run(%v, %v, %d): %d", brief(r), t, n, e)
	}
	if g == f || g.W() != f.W() || g.H() != f.H() || g.States() != f.States() || g.Packed() != packed {
		test.Fatalf("Run(%v, %v, %d): %d times %d with %d states, packed %v; handed in: %d times %d with %d states, packed %v", brief(r), t, n, g.W(), g.H(), g.States(), g.Packed(), f.W(), f.H(), f.States(), packed)
	}
	if !f.Same(was) || f.Packed() != packed {
		test.Fatalf("Run(%v, %v, %d): what was handed in is another", brief(r), t, n)
	}
	return g
}

// hasCells holds a field against the states that it must have.
func hasCells(test *testing.T, what string, r api.Rule, t api.Topo, f *field.Field, want []uint8) {
	test.Helper()
	if got := cellsOf(test, f); !slices.Equal(got, want) {
		test.Errorf("%s: %v on %v: %v, not %v", what, brief(r), t, short(got), short(want))
	}
}

// mustFrame is the frame of a grid.
func mustFrame(test *testing.T, t api.Topo, f *field.Field) api.Frame {
	test.Helper()
	frame, e := ring.Bytes(t, f)
	if e != api.OK {
		test.Fatalf("Bytes(%v): %d", t, e)
	}
	return frame
}

// brief is a rule as a test tells it.
func brief(r api.Rule) api.Rule {
	if len(r.Table.Rows) > 8 {
		r.Table.Rows = r.Table.Rows[:8]
	}
	return r
}

// short is the beginning of a list, as a test tells it.
func short[T any](list []T) []T { return list[:min(len(list), 40)] }

// wrongRules are rules that may not be, of each kind and of none.
func wrongRules() []api.Rule {
	wrongRow := wind(api.Moore, 0, 2)
	wrongRow.Table.Rows[0].Around = wrongRow.Table.Rows[0].Around[1:]
	noName, withGens := wind(api.Neumann, 0, 2), wind(api.Hex, 0, 2)
	noName.Name = ""
	withGens.Gens = conway().Gens
	named, many := conway(), conway()
	named.Name = "t"
	many.Gens.States = 3
	return []api.Rule{{}, {Kind: 4}, {Kind: 255, Gens: conway().Gens}, {Kind: api.KindLife}, births(0, 1<<3, 1<<2), births(4, 1<<3, 1<<2), births(api.Moore, 1<<9, 0), births(api.Neumann, 1<<3, 1<<5), births(api.Hex, 1<<7, 0),
		named, many, fading(api.Moore, 1<<3, 0, 1), fading(api.Moore, 1<<3, 0, 0), fading(api.Moore, 1<<3, 0, 257), fading(api.Moore, 1<<3, 0, -1), fading(9, 1<<3, 0, 2),
		wrongRow, noName, withGens, tabled(api.Table{}), tabled(api.Table{States: 1, Hood: api.Moore}), tabled(api.Table{States: 257, Hood: api.Moore}), tabled(api.Table{States: 2}), tabled(api.Table{States: 2, Hood: api.Moore, Symmetry: 11})}
}
