package strip_test

import (
	"math"
	"slices"

	"vivarium/api"
)

// Rules, topologies, rows and bands for the tests.

func at(x, y int) api.Point { return api.Point{X: x, Y: y} }

// offsets are chapter 7's.
var offsets = map[uint8][]api.Point{
	api.Moore:   {at(0, -1), at(1, -1), at(1, 0), at(1, 1), at(0, 1), at(-1, 1), at(-1, 0), at(-1, -1)},
	api.Neumann: {at(0, -1), at(1, 0), at(0, 1), at(-1, 0)},
	api.Hex:     {at(0, -1), at(1, 0), at(1, 1), at(0, 1), at(-1, 0), at(-1, -1)},
}

// births is a rule of KindLife, fading one of KindGens, tabled one of KindTable.
func births(near uint8, born, stay uint16) api.Rule {
	return api.Rule{Kind: api.KindLife, Gens: api.Gens{Life: api.Life{Hood: near, Born: born, Stay: stay}, States: 2}}
}

func fading(near uint8, born, stay uint16, states int) api.Rule {
	return api.Rule{Kind: api.KindGens, Gens: api.Gens{Life: api.Life{Hood: near, Born: born, Stay: stay}, States: states}}
}

func tabled(k api.Table) api.Rule { return api.Rule{Kind: api.KindTable, Name: "t", Table: k} }

// conway is B3/S23; odd is a sum: a cell lives next, if an odd number of it and its neighbours do.
func conway() api.Rule { return births(api.Moore, 1<<3, 1<<2|1<<3) }

func odd() api.Rule { return births(api.Moore, 1<<1|1<<3|1<<5|1<<7, 1|1<<2|1<<4|1<<6|1<<8) }

// st is the term of a state, va that of a variable.
func st(state uint8) api.Term { return api.Term{State: state, Var: -1} }

func va(number int) api.Term { return api.Term{Var: number} }

// wind is a table in which a cell becomes what its neighbour with this number is: it tells which neighbour is which.
func wind(near uint8, number, states int) api.Rule {
	k := api.Table{States: states, Hood: near}
	row := api.Trans{Centre: va(0), Out: va(1 + number)}
	for i := range len(offsets[near]) + 1 {
		v := api.Var{Name: "abcdefghi"[i : i+1]}
		for state := range states {
			v.States = append(v.States, uint8(state))
		}
		k.Vars = append(k.Vars, v)
	}
	for i := range offsets[near] {
		row.Around = append(row.Around, va(1+i))
	}
	k.Rows = []api.Trans{row}
	return tabled(k)
}

// dice are numbers drawn at random, the same ones each time.
type dice uint64

// below is a number from 0 to n - 1.
func (d *dice) below(n int) int {
	*d = *d*6364136223846793005 + 1442695040888963407
	return int(uint64(*d)>>33) % n
}

// cells are states drawn at random.
func (d *dice) cells(n, states int) []uint8 {
	cells := make([]uint8, n)
	for i := range cells {
		cells[i] = uint8(d.below(states))
	}
	return cells
}

// band is one of so many rows, about as many of its cells alive as dead; empty rows may stand at its ends.
func (d *dice) band(w, at, rows, states int) api.Band {
	b := api.Band{W: w, At: at}
	for range rows {
		row := d.cells(w, states)
		for x := range row {
			row[x] *= uint8(d.below(2))
		}
		b.Rows = append(b.Rows, row)
	}
	return b
}

// table is a rule of KindTable that may be, of so many rows, with three variables.
func (d *dice) table(symmetry, near uint8, states, rows int) api.Rule {
	k := api.Table{States: states, Hood: near, Symmetry: symmetry}
	for i := range 3 {
		list := d.cells(1+d.below(states), states)
		slices.Sort(list)
		k.Vars = append(k.Vars, api.Var{Name: "abc"[i : i+1], States: slices.Compact(list)})
	}
	for range rows {
		k.Rows = append(k.Rows, d.row(k))
	}
	return tabled(k)
}

// row is one that may be in the table; what comes out is a state, or a term of the row.
func (d *dice) row(k api.Table) api.Trans {
	terms := []api.Term{}
	for range len(offsets[k.Hood]) + 1 {
		if d.below(3) == 0 {
			terms = append(terms, st(uint8(d.below(k.States))))
		} else {
			terms = append(terms, va(d.below(len(k.Vars))))
		}
	}
	out := append(slices.Clone(terms), st(uint8(d.below(k.States))))
	return api.Trans{Centre: terms[0], Around: terms[1:], Out: out[d.below(len(out))]}
}

// function is a table in which each argument of a function of two states, drawn at random, has a row of its own.
func (d *dice) function(near uint8) api.Rule {
	k := api.Table{States: 2, Hood: near}
	size := len(offsets[near])
	for argument := range 1 << (size + 1) {
		row := api.Trans{Centre: st(uint8(argument & 1)), Out: st(uint8(d.below(2)))}
		for i := range size {
			row.Around = append(row.Around, st(uint8(argument>>(i+1)&1)))
		}
		k.Rows = append(k.Rows, row)
	}
	return tabled(k)
}

// hushed is a rule like this one that leaves empty space empty.
func hushed(r api.Rule) api.Rule {
	if r.Kind != api.KindTable {
		r.Gens.Life.Born &^= 1
		return r
	}
	still := api.Trans{Centre: st(0), Out: st(0)}
	for range offsets[r.Table.Hood] {
		still.Around = append(still.Around, st(0))
	}
	r.Table.Rows = append([]api.Trans{still}, r.Table.Rows...)
	return r
}

// rules are such as strips take, of each kind and neighbourhood, of two and of more states.
func rules() []api.Rule {
	d := dice(11)
	all := []api.Rule{conway(), odd(), births(api.Hex, 1<<2, 1<<3|1<<4), births(api.Neumann, 1<<1|1<<3, 1<<2),
		fading(api.Neumann, 1<<1, 1<<2, 3), fading(api.Moore, 1<<2, 1<<3|1<<4|1<<5, 4), fading(api.Hex, 1<<2, 1<<1, 256),
		d.table(api.SymNone, api.Moore, 3, 6), d.table(api.SymReflect, api.Neumann, 4, 6), d.table(api.SymRotate6, api.Hex, 3, 6), d.table(api.SymPermute, api.Neumann, 3, 6),
		wind(api.Hex, 2, 3), wind(api.Moore, 7, 2), wind(api.Neumann, 0, 256), d.function(api.Neumann), tabled(api.Table{States: 256, Hood: api.Hex})}
	for i, r := range all {
		all[i] = hushed(r)
	}
	return all
}

// fewRules are one of each kind; they make much of little.
func fewRules() []api.Rule {
	d := dice(13)
	return []api.Rule{conway(), odd(), fading(api.Moore, 1<<2, 1<<3|1<<4|1<<5, 4), hushed(d.table(api.SymRotate4, api.Neumann, 3, 9)), hushed(wind(api.Hex, 2, 3))}
}

// wrongRules are rules that may not be, of each kind and of none.
func wrongRules() []api.Rule {
	wrongRow, noName := wind(api.Moore, 0, 2), wind(api.Neumann, 0, 2)
	wrongRow.Table.Rows[0].Around = wrongRow.Table.Rows[0].Around[1:]
	noName.Name = ""
	named := conway()
	named.Name = "t"
	return []api.Rule{{}, {Kind: 4}, {Kind: api.KindLife}, births(4, 1<<3, 1<<2), births(api.Neumann, 1<<3, 1<<5), named, fading(api.Moore, 1<<3, 0, 1), fading(api.Moore, 1<<3, 0, 257),
		wrongRow, noName, tabled(api.Table{}), tabled(api.Table{States: 257, Hood: api.Moore})}
}

// loudRules wake empty space, one of each kind.
func loudRules() []api.Rule {
	return []api.Rule{births(api.Moore, 1, 0), fading(api.Hex, 1|1<<2, 1<<1, 7), tabled(api.Table{States: 3, Hood: api.Neumann, Rows: []api.Trans{{Centre: st(0), Around: []api.Term{st(0), st(0), st(0), st(0)}, Out: st(2)}}})}
}

// strips are a Plane and a Torus of so many columns.
func strips(w int) []api.Topo {
	return []api.Topo{{Kind: api.Plane, W: w}, {Kind: api.Torus, W: w}}
}

// anyTopos are topologies of each kind and of none, with sides that may be and that may not, turned and not.
func anyTopos() []api.Topo {
	var all []api.Topo
	for kind := range uint8(7) {
		for _, w := range []int{math.MinInt, -1, 0, 1, 4, 1 << 16, 1<<16 + 1, math.MaxInt} {
			for _, h := range []int{math.MinInt, -1, 0, 1, 4, 1<<16 + 1, math.MaxInt} {
				for turn := range uint8(4) {
					for _, shift := range []int{-1, 0, 1} {
						all = append(all, api.Topo{Kind: kind, W: w, H: h, Turn: turn, Shift: shift})
					}
				}
			}
		}
	}
	return all
}

// someTopos are strips of three columns, and topologies that are none.
func someTopos() []api.Topo {
	return append(strips(3), api.Topo{Kind: api.Torus, H: 3}, api.Topo{Kind: api.Plane}, api.Topo{Kind: api.Torus, W: 3, H: 3}, api.Topo{Kind: api.Cross, W: 3})
}

// drawn are rows: a digit is a state.
func drawn(lines ...string) [][]uint8 {
	var all [][]uint8
	for _, line := range lines {
		row := []uint8(line)
		for x := range row {
			row[x] -= '0'
		}
		all = append(all, row)
	}
	return all
}

// band is a band by its fields.
func band(w, at int, lines ...string) api.Band { return api.Band{W: w, At: at, Rows: drawn(lines...)} }

// same tells whether two bands are the same, field by field.
func same(a, b api.Band) bool {
	return a.W == b.W && a.At == b.At && slices.EqualFunc(a.Rows, b.Rows, slices.Equal)
}

// isZero tells whether a band is none.
func isZero(b api.Band) bool { return b.W == 0 && b.At == 0 && b.Rows == nil }

// ownRows are the same rows in memory of their own.
func ownRows(rows [][]uint8) [][]uint8 {
	rows = slices.Clone(rows)
	for i, row := range rows {
		rows[i] = slices.Clone(row)
	}
	return rows
}

func ownBand(b api.Band) api.Band {
	b.Rows = ownRows(b.Rows)
	return b
}

// copied is the same rule in memory of its own.
func copied(r api.Rule) api.Rule {
	r.Table.Vars, r.Table.Rows = slices.Clone(r.Table.Vars), slices.Clone(r.Table.Rows)
	for i, v := range r.Table.Vars {
		r.Table.Vars[i].States = slices.Clone(v.States)
	}
	for i, row := range r.Table.Rows {
		r.Table.Rows[i].Around = slices.Clone(row.Around)
	}
	return r
}

// brief, short and shortBand are a rule, the beginning of a list and that of a band, as a test tells them.
func brief(r api.Rule) api.Rule {
	if len(r.Table.Rows) > 8 {
		r.Table.Rows = r.Table.Rows[:8]
	}
	return r
}

func short[T any](list []T) []T { return list[:min(len(list), 40)] }

func shortBand(b api.Band) api.Band {
	b.Rows = slices.Clone(short(b.Rows))
	for i, row := range b.Rows {
		b.Rows[i] = short(row)
	}
	return b
}
