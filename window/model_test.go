package window_test

import (
	"slices"
	"testing"

	"vivarium/api"
	"vivarium/rule"
	"vivarium/table"
	"vivarium/window"
)

// The model: the living cells of a strip in a map by their places, columns by home numbers, without rows, bands and hood; one generation as the page says it. What a rule of births and stays says is counted anew; what a table says is what rule.Next says of it.

func at(x, y int) api.Point { return api.Point{X: x, Y: y} }

// living are living cells by their places.
type living map[api.Point]uint8

// livingOf are a band's.
func livingOf(b api.Band) living {
	c := living{}
	for i, row := range b.Rows {
		for x, state := range row {
			if state != 0 {
				c[at(x, b.At+i)] = state
			}
		}
	}
	return c
}

// span is the least and the greatest Y of living cells; false: there are none.
func (c living) span() (least, most int, is bool) {
	for p := range c {
		if !is {
			least, most, is = p.Y, p.Y, true
		}
		least, most = min(least, p.Y), max(most, p.Y)
	}
	return least, most, is
}

// band is the living cells as a trimmed band of w columns.
func (c living) band(w int) api.Band {
	least, most, is := c.span()
	if !is {
		return api.Band{W: w}
	}
	b := api.Band{W: w, At: least}
	for y := least; y <= most; y++ {
		row := make([]uint8, w)
		for x := range row {
			row[x] = c[at(x, y)]
		}
		b.Rows = append(b.Rows, row)
	}
	return b
}

// stateAt is what a place of the strip, or one left or right of it, is.
func (c living) stateAt(t api.Topo, x, y int) uint8 {
	if t.Kind == api.Torus {
		x = (x%t.W + t.W) % t.W
	}
	return c[at(x, y)] // on a Plane nothing lives beyond the ends
}

// next is the state of a cell one generation later.
func (c living) next(r api.Rule, t api.Topo, x, y int) uint8 {
	var around []uint8
	for _, d := range offsets[hoodOf(r)] {
		around = append(around, c.stateAt(t, x+d.X, y+d.Y))
	}
	return modelNext(r, c[at(x, y)], around)
}

// modelRun are the living cells n generations later. Rows that lie two away from what lives are looked at too.
func modelRun(r api.Rule, t api.Topo, c living, n int) living {
	for range n {
		later := living{}
		if least, most, is := c.span(); is {
			for y := least - 2; y <= most+2; y++ {
				for x := range t.W {
					if state := c.next(r, t, x, y); state != 0 {
						later[at(x, y)] = state
					}
				}
			}
		}
		c = later
	}
	return c
}

// offsets are chapter 7's.
var offsets = map[uint8][]api.Point{
	api.Moore:   {at(0, -1), at(1, -1), at(1, 0), at(1, 1), at(0, 1), at(-1, 1), at(-1, 0), at(-1, -1)},
	api.Neumann: {at(0, -1), at(1, 0), at(0, 1), at(-1, 0)},
	api.Hex:     {at(0, -1), at(1, 0), at(1, 1), at(0, 1), at(-1, 0), at(-1, -1)},
}

// statesOf and hoodOf are a rule's, by its fields.
func statesOf(r api.Rule) int {
	if r.Kind == api.KindTable {
		return r.Table.States
	}
	return r.Gens.States
}

func hoodOf(r api.Rule) uint8 {
	if r.Kind == api.KindTable {
		return r.Table.Hood
	}
	return r.Gens.Life.Hood
}

// modelNext is what a rule says that may be.
func modelNext(r api.Rule, centre uint8, around []uint8) uint8 {
	if r.Kind == api.KindTable {
		next, e := rule.Next(r, centre, around)
		if e != api.OK {
			panic(e)
		}
		return next
	}
	ones := 0
	for _, state := range around {
		if state == 1 {
			ones++
		}
	}
	switch {
	case centre == 0:
		return uint8(r.Gens.Life.Born >> ones & 1)
	case centre == 1 && r.Gens.Life.Stay>>ones&1 == 1:
		return 1
	}
	return uint8((int(centre) + 1) % r.Gens.States)
}

// births is a rule of KindLife, fading one of KindGens, tabled one of KindTable.
func births(near uint8, born, stay uint16) api.Rule {
	return api.Rule{Kind: api.KindLife, Gens: api.Gens{Life: api.Life{Hood: near, Born: born, Stay: stay}, States: 2}}
}

func fading(near uint8, born, stay uint16, states int) api.Rule {
	return api.Rule{Kind: api.KindGens, Gens: api.Gens{Life: api.Life{Hood: near, Born: born, Stay: stay}, States: states}}
}

func tabled(k api.Table) api.Rule { return api.Rule{Kind: api.KindTable, Name: "t", Table: k} }

// conway is B3/S23.
func conway() api.Rule { return births(api.Moore, 1<<3, 1<<2|1<<3) }

// st is the term of a state, va that of a variable.
func st(state uint8) api.Term { return api.Term{State: state, Var: -1} }

func va(number int) api.Term { return api.Term{Var: number} }

// wind is a table in which a cell becomes what its neighbour with this number is: it tells which neighbour is which.
func wind(near uint8, number, states int) api.Rule {
	k := api.Table{States: states, Hood: near}
	row := api.Trans{Centre: va(0), Out: va(1 + number)}
	for i := range len(offsets[near]) + 1 {
		v := api.Var{Name: "abcdefghi"[i : i+1]}
		for state := range states {
			v.States = append(v.States, uint8(state))
		}
		k.Vars = append(k.Vars, v)
	}
	for i := range offsets[near] {
		row.Around = append(row.Around, va(1+i))
	}
	k.Rows = []api.Trans{row}
	return tabled(k)
}

// dice are numbers drawn at random, the same ones each time.
type dice uint64

// below is a number from 0 to n - 1.
func (d *dice) below(n int) int {
	*d = *d*6364136223846793005 + 1442695040888963407
	return int(uint64(*d)>>33) % n
}

// cells are states drawn at random.
func (d *dice) cells(n, states int) []uint8 {
	cells := make([]uint8, n)
	for i := range cells {
		cells[i] = uint8(d.below(states))
	}
	return cells
}

// band is a band of so many rows, about as many of its cells alive as dead.
func (d *dice) band(w, at, rows, states int) api.Band {
	b := api.Band{W: w, At: at}
	for range rows {
		row := d.cells(w, states)
		for x := range row {
			row[x] *= uint8(d.below(2))
		}
		b.Rows = append(b.Rows, row)
	}
	return b
}

// counts are numbers of neighbours drawn at random, as bits.
func (d *dice) counts(near uint8) uint16 {
	return uint16(d.below(1 << (len(offsets[near]) + 1)))
}

// some are states, rising, one at least.
func (d *dice) some(states int) []uint8 {
	list := d.cells(1+d.below(states), states)
	slices.Sort(list)
	return slices.Compact(list)
}

// table is a rule of KindTable that may be, of so many rows, with two to four variables.
func (d *dice) table(symmetry, near uint8, states, rows int) api.Rule {
	k := api.Table{States: states, Hood: near, Symmetry: symmetry}
	for i := range 2 + d.below(3) {
		k.Vars = append(k.Vars, api.Var{Name: "abcd"[i : i+1], States: d.some(states)})
	}
	for range rows {
		k.Rows = append(k.Rows, d.row(k))
	}
	return tabled(k)
}

// row is one that may be in the table; what comes out is a state, or a term of the row.
func (d *dice) row(k api.Table) api.Trans {
	terms := []api.Term{}
	for range len(offsets[k.Hood]) + 1 {
		if d.below(3) == 0 {
			terms = append(terms, st(uint8(d.below(k.States))))
		} else {
			terms = append(terms, va(d.below(len(k.Vars))))
		}
	}
	out := append(slices.Clone(terms), st(uint8(d.below(k.States))))
	return api.Trans{Centre: terms[0], Around: terms[1:], Out: out[d.below(len(out))]}
}

// function is a table in which each argument of a function of two states, drawn at random, has a row of its own.
func (d *dice) function(near uint8) api.Rule {
	k := api.Table{States: 2, Hood: near}
	size := len(offsets[near])
	for argument := range 1 << (size + 1) {
		row := api.Trans{Centre: st(uint8(argument & 1)), Out: st(uint8(d.below(2)))}
		for i := range size {
			row.Around = append(row.Around, st(uint8(argument>>(i+1)&1)))
		}
		k.Rows = append(k.Rows, row)
	}
	return tabled(k)
}

// symmetries are those of a neighbourhood.
func symmetries(near uint8) []uint8 {
	var all []uint8
	for s := range uint8(11) {
		if _, e := table.Group(s, near); e == api.OK {
			all = append(all, s)
		}
	}
	return all
}

// rulesOf are rules of each kind with a neighbourhood: of births and stays, loud ones and quiet ones; fading; tables with each symmetry, ones that tell the neighbours apart, and functions told row by row.
func rulesOf(near uint8) []api.Rule {
	d := dice(3 + uint64(near))
	all := []api.Rule{births(near, 1<<2, 1<<1|1<<2), births(near, 1, 1<<len(offsets[near])), births(near, d.counts(near), d.counts(near)), births(near, d.counts(near)|1, d.counts(near))}
	for _, states := range []int{2, 3, 5, 256} {
		all = append(all, fading(near, d.counts(near), d.counts(near), states))
	}
	for _, s := range symmetries(near) {
		all = append(all, d.table(s, near, 2+d.below(4), 5))
	}
	for number := range offsets[near] {
		all = append(all, wind(near, number, 4))
	}
	return append(all, d.function(near), tabled(api.Table{States: 256, Hood: near}))
}

// allRules are those of the three neighbourhoods.
func allRules() []api.Rule {
	return slices.Concat(rulesOf(api.Moore), rulesOf(api.Neumann), rulesOf(api.Hex))
}

// fewRules are one or two of each kind that strips take, the neighbourhoods by turns.
func fewRules() []api.Rule {
	d := dice(11)
	all := []api.Rule{conway(), births(api.Hex, 1<<2, 1<<3), fading(api.Neumann, 1<<1, 1<<2, 3), fading(api.Moore, 1<<2, 1<<3|1<<4, 5),
		d.table(api.SymNone, api.Moore, 3, 6), d.table(api.SymReflect, api.Neumann, 4, 6), d.table(api.SymRotate6, api.Hex, 3, 6), d.table(api.SymPermute, api.Neumann, 3, 6),
		wind(api.Hex, 2, 3), d.function(api.Neumann)}
	for i, r := range all {
		all[i] = hushed(r)
	}
	return all
}

// quiet tells whether a rule leaves empty space empty.
func quiet(r api.Rule) bool {
	return modelNext(r, 0, make([]uint8, len(offsets[hoodOf(r)]))) == 0
}

// copied is the same rule in memory of its own.
func copied(r api.Rule) api.Rule {
	r.Table.Vars, r.Table.Rows = slices.Clone(r.Table.Vars), slices.Clone(r.Table.Rows)
	for i, v := range r.Table.Vars {
		r.Table.Vars[i].States = slices.Clone(v.States)
	}
	for i, row := range r.Table.Rows {
		r.Table.Rows[i].Around = slices.Clone(row.Around)
	}
	return r
}

// hushed is a rule like this one that leaves empty space empty.
func hushed(r api.Rule) api.Rule {
	if r.Kind != api.KindTable {
		r.Gens.Life.Born &^= 1
		return r
	}
	still := api.Trans{Centre: st(0), Out: st(0)}
	for range offsets[r.Table.Hood] {
		still.Around = append(still.Around, st(0))
	}
	r.Table.Rows = append([]api.Trans{still}, r.Table.Rows...)
	return r
}

// quietRules are rules of each kind and neighbourhood that strips take.
func quietRules() []api.Rule {
	var all []api.Rule
	for _, r := range allRules() {
		all = append(all, hushed(r))
	}
	return all
}

// strips are a Plane and a Torus of so many columns.
func strips(w int) []api.Topo {
	return []api.Topo{{Kind: api.Plane, W: w}, {Kind: api.Torus, W: w}}
}

// drawn are rows: a digit is a state.
func drawn(lines ...string) [][]uint8 {
	var rows [][]uint8
	for _, line := range lines {
		row := []uint8(line)
		for x := range row {
			row[x] -= '0'
		}
		rows = append(rows, row)
	}
	return rows
}

// band is a band by its fields.
func band(w, at int, lines ...string) api.Band { return api.Band{W: w, At: at, Rows: drawn(lines...)} }

// same tells whether two bands are the same, field by field.
func same(a, b api.Band) bool {
	return a.W == b.W && a.At == b.At && slices.EqualFunc(a.Rows, b.Rows, slices.Equal)
}

// isZero tells whether a band is none.
func isZero(b api.Band) bool { return b.W == 0 && b.At == 0 && b.Rows == nil }

// ownBand is the same band in memory of its own.
func ownBand(b api.Band) api.Band {
	b.Rows = slices.Clone(b.Rows)
	for i, row := range b.Rows {
		b.Rows[i] = slices.Clone(row)
	}
	return b
}

// shortBand is a band as a test tells it.
func shortBand(b api.Band) api.Band {
	b.Rows = slices.Clone(short(b.Rows))
	for i, row := range b.Rows {
		b.Rows[i] = short(row)
	}
	return b
}

// mustRun is a band that there must be; what was handed in is as it was.
func mustRun(test *testing.T, r api.Rule, t api.Topo, b api.Band, n int) api.Band {
	test.Helper()
	was := ownBand(b)
	got, e := window.Run(r, t, b, n)
	if e != api.OK {
		test.Fatalf("Run(%v, %v, %v, %d): %d", brief(r), t, shortBand(b), n, e)
	}
	if !same(b, was) {
		test.Fatalf("Run(%v, %v, %v, %d): what was handed in is another", brief(r), t, shortBand(was), n)
	}
	return got
}

// refusesRun looks whether Run tells this error and nothing more.
func refusesRun(test *testing.T, r api.Rule, t api.Topo, b api.Band, n int, want api.Errno) {
	test.Helper()
	if got, e := window.Run(r, t, b, n); e != want || !isZero(got) {
		test.Errorf("Run(%v, %v, %v, %d): %v, %d, not %d", brief(r), t, shortBand(b), n, shortBand(got), e, want)
	}
}

// mustTrim and refusesTrim are Trim's.
func mustTrim(test *testing.T, r api.Rule, t api.Topo, b api.Band) api.Band {
	test.Helper()
	was := ownBand(b)
	got, e := window.Trim(r, t, b)
	if e != api.OK {
		test.Fatalf("Trim(%v, %v, %v): %d", brief(r), t, shortBand(b), e)
	}
	if !same(b, was) {
		test.Fatalf("Trim(%v, %v, %v): what was handed in is another", brief(r), t, shortBand(was))
	}
	return got
}

func refusesTrim(test *testing.T, r api.Rule, t api.Topo, b api.Band, want api.Errno) {
	test.Helper()
	if got, e := window.Trim(r, t, b); e != want || !isZero(got) {
		test.Errorf("Trim(%v, %v, %v): %v, %d, not %d", brief(r), t, shortBand(b), shortBand(got), e, want)
	}
}

// mustLine and refusesLine are Line's.
func mustLine(test *testing.T, r api.Rule, t api.Topo, above, here, below []uint8) []uint8 {
	test.Helper()
	was := slices.Concat(above, here, below)
	got, e := window.Line(r, t, above, here, below)
	if e != api.OK || len(got) != t.W {
		test.Fatalf("Line(%v, %v, %v, %v, %v): %v, %d", brief(r), t, short(above), short(here), short(below), short(got), e)
	}
	if !slices.Equal(slices.Concat(above, here, below), was) {
		test.Fatalf("Line(%v, %v, ..): what was handed in is another", brief(r), t)
	}
	return got
}

func refusesLine(test *testing.T, r api.Rule, t api.Topo, rows [3][]uint8, want api.Errno) {
	test.Helper()
	if got, e := window.Line(r, t, rows[0], rows[1], rows[2]); e != want || got != nil {
		test.Errorf("Line(%v, %v, %v): %v, %d, not %d", brief(r), t, rows, short(got), e, want)
	}
}

// hasBand holds a band against the one that it must be.
func hasBand(test *testing.T, what string, r api.Rule, t api.Topo, got, want api.Band) {
	test.Helper()
	if !same(got, want) {
		test.Errorf("%s: %v on %v: %v, not %v", what, brief(r), t, shortBand(got), shortBand(want))
	}
}

// brief is a rule as a test tells it.
func brief(r api.Rule) api.Rule {
	if len(r.Table.Rows) > 8 {
		r.Table.Rows = r.Table.Rows[:8]
	}
	return r
}

// short is the beginning of a list, as a test tells it.
func short[T any](list []T) []T { return list[:min(len(list), 40)] }

// wrongRules are rules that may not be, of each kind and of none.
func wrongRules() []api.Rule {
	wrongRow := wind(api.Moore, 0, 2)
	wrongRow.Table.Rows[0].Around = wrongRow.Table.Rows[0].Around[1:]
	noName, withGens := wind(api.Neumann, 0, 2), wind(api.Hex, 0, 2)
	noName.Name = ""
	withGens.Gens = conway().Gens
	named, many := conway(), conway()
	named.Name = "t"
	many.Gens.States = 3
	return []api.Rule{{}, {Kind: 4}, {Kind: 255, Gens: conway().Gens}, {Kind: api.KindLife}, births(0, 1<<3, 1<<2), births(4, 1<<3, 1<<2), births(api.Moore, 1<<9, 0), births(api.Neumann, 1<<3, 1<<5), births(api.Hex, 1<<7, 0),
		named, many, fading(api.Moore, 1<<3, 0, 1), fading(api.Moore, 1<<3, 0, 0), fading(api.Moore, 1<<3, 0, 257), fading(api.Moore, 1<<3, 0, -1), fading(9, 1<<3, 0, 2),
		wrongRow, noName, withGens, tabled(api.Table{}), tabled(api.Table{States: 1, Hood: api.Moore}), tabled(api.Table{States: 257, Hood: api.Moore}), tabled(api.Table{States: 2}), tabled(api.Table{States: 2, Hood: api.Moore, Symmetry: 11})}
}
