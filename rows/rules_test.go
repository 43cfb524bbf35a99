package rows_test

import (
	"math"
	"slices"

	"vivarium/api"
	"vivarium/table"
)

// Rules, topologies and rows for the tests.

// births is a rule of KindLife, fading one of KindGens, tabled one of KindTable.
func births(near uint8, born, stay uint16) api.Rule {
	return api.Rule{Kind: api.KindLife, Gens: api.Gens{Life: api.Life{Hood: near, Born: born, Stay: stay}, States: 2}}
}

func fading(near uint8, born, stay uint16, states int) api.Rule {
	return api.Rule{Kind: api.KindGens, Gens: api.Gens{Life: api.Life{Hood: near, Born: born, Stay: stay}, States: states}}
}

func tabled(k api.Table) api.Rule { return api.Rule{Kind: api.KindTable, Name: "t", Table: k} }

// conway is B3/S23.
func conway() api.Rule { return births(api.Moore, 1<<3, 1<<2|1<<3) }

// st is the term of a state, va that of a variable.
func st(state uint8) api.Term { return api.Term{State: state, Var: -1} }

func va(number int) api.Term { return api.Term{Var: number} }

// wind is a table in which a cell becomes what its neighbour with this number is: it tells which neighbour is which.
func wind(near uint8, number, states int) api.Rule {
	k := api.Table{States: states, Hood: near}
	row := api.Trans{Centre: va(0), Out: va(1 + number)}
	for i := range len(offsets[near]) + 1 {
		v := api.Var{Name: "abcdefghi"[i : i+1]}
		for state := range states {
			v.States = append(v.States, uint8(state))
		}
		k.Vars = append(k.Vars, v)
	}
	for i := range offsets[near] {
		row.Around = append(row.Around, va(1+i))
	}
	k.Rows = []api.Trans{row}
	return tabled(k)
}

// dice are numbers drawn at random, the same ones each time.
type dice uint64

// below is a number from 0 to n - 1.
func (d *dice) below(n int) int {
	*d = *d*6364136223846793005 + 1442695040888963407
	return int(uint64(*d)>>33) % n
}

// cells are states drawn at random.
func (d *dice) cells(n, states int) []uint8 {
	cells := make([]uint8, n)
	for i := range cells {
		cells[i] = uint8(d.below(states))
	}
	return cells
}

// counts are numbers of neighbours drawn at random, as bits.
func (d *dice) counts(near uint8) uint16 {
	return uint16(d.below(1 << (len(offsets[near]) + 1)))
}

// some are states, rising, one at least.
func (d *dice) some(states int) []uint8 {
	list := d.cells(1+d.below(states), states)
	slices.Sort(list)
	return slices.Compact(list)
}

// table is a rule of KindTable that may be, of so many rows, with two to four variables.
func (d *dice) table(symmetry, near uint8, states, rows int) api.Rule {
	k := api.Table{States: states, Hood: near, Symmetry: symmetry}
	for i := range 2 + d.below(3) {
		k.Vars = append(k.Vars, api.Var{Name: "abcd"[i : i+1], States: d.some(states)})
	}
	for range rows {
		k.Rows = append(k.Rows, d.row(k))
	}
	return tabled(k)
}

// row is one that may be in the table; what comes out is a state, or a term of the row.
func (d *dice) row(k api.Table) api.Trans {
	terms := []api.Term{}
	for range len(offsets[k.Hood]) + 1 {
		if d.below(3) == 0 {
			terms = append(terms, st(uint8(d.below(k.States))))
		} else {
			terms = append(terms, va(d.below(len(k.Vars))))
		}
	}
	out := append(slices.Clone(terms), st(uint8(d.below(k.States))))
	return api.Trans{Centre: terms[0], Around: terms[1:], Out: out[d.below(len(out))]}
}

// function is a table in which each argument of a function of two states, drawn at random, has a row of its own.
func (d *dice) function(near uint8) api.Rule {
	k := api.Table{States: 2, Hood: near}
	size := len(offsets[near])
	for argument := range 1 << (size + 1) {
		row := api.Trans{Centre: st(uint8(argument & 1)), Out: st(uint8(d.below(2)))}
		for i := range size {
			row.Around = append(row.Around, st(uint8(argument>>(i+1)&1)))
		}
		k.Rows = append(k.Rows, row)
	}
	return tabled(k)
}

// symmetries are those of a neighbourhood.
func symmetries(near uint8) []uint8 {
	var all []uint8
	for s := range uint8(11) {
		if _, e := table.Group(s, near); e == api.OK {
			all = append(all, s)
		}
	}
	return all
}

// rulesOf are rules of each kind with a neighbourhood: of births and stays, loud ones and quiet ones; fading; tables with each symmetry, ones that tell the neighbours apart, and functions told row by row.
func rulesOf(near uint8) []api.Rule {
	d := dice(3 + uint64(near))
	all := []api.Rule{births(near, 1<<2, 1<<1|1<<2), births(near, 1, 1<<len(offsets[near])), births(near, d.counts(near), d.counts(near)), births(near, d.counts(near)|1, d.counts(near))}
	for _, states := range []int{2, 3, 5, 256} {
		all = append(all, fading(near, d.counts(near), d.counts(near), states))
	}
	for _, s := range symmetries(near) {
		all = append(all, d.table(s, near, 2+d.below(4), 5))
	}
	for number := range offsets[near] {
		all = append(all, wind(near, number, 4))
	}
	return append(all, d.function(near), tabled(api.Table{States: 256, Hood: near}))
}

// allRules are those of the three neighbourhoods.
func allRules() []api.Rule {
	return slices.Concat(rulesOf(api.Moore), rulesOf(api.Neumann), rulesOf(api.Hex))
}

// fewRules are one or two of each kind that strips take, the neighbourhoods by turns.
func fewRules() []api.Rule {
	d := dice(11)
	all := []api.Rule{conway(), births(api.Hex, 1<<2, 1<<3), fading(api.Neumann, 1<<1, 1<<2, 3), fading(api.Moore, 1<<2, 1<<3|1<<4, 5),
		d.table(api.SymNone, api.Moore, 3, 6), d.table(api.SymReflect, api.Neumann, 4, 6), d.table(api.SymRotate6, api.Hex, 3, 6), d.table(api.SymPermute, api.Neumann, 3, 6),
		wind(api.Hex, 2, 3), d.function(api.Neumann)}
	for i, r := range all {
		all[i] = hushed(r)
	}
	return all
}

// quiet tells whether a rule leaves empty space empty.
func quiet(r api.Rule) bool {
	return modelNext(r, 0, make([]uint8, len(offsets[hoodOf(r)]))) == 0
}

// copied is the same rule in memory of its own.
func copied(r api.Rule) api.Rule {
	r.Table.Vars, r.Table.Rows = slices.Clone(r.Table.Vars), slices.Clone(r.Table.Rows)
	for i, v := range r.Table.Vars {
		r.Table.Vars[i].States = slices.Clone(v.States)
	}
	for i, row := range r.Table.Rows {
		r.Table.Rows[i].Around = slices.Clone(row.Around)
	}
	return r
}

// hushed is a rule like this one that leaves empty space empty.
func hushed(r api.Rule) api.Rule {
	if r.Kind != api.KindTable {
		r.Gens.Life.Born &^= 1
		return r
	}
	still := api.Trans{Centre: st(0), Out: st(0)}
	for range offsets[r.Table.Hood] {
		still.Around = append(still.Around, st(0))
	}
	r.Table.Rows = append([]api.Trans{still}, r.Table.Rows...)
	return r
}

// quietRules are rules of each kind and neighbourhood that strips take.
func quietRules() []api.Rule {
	var all []api.Rule
	for _, r := range allRules() {
		all = append(all, hushed(r))
	}
	return all
}

// strips are a Plane and a Torus of so many columns.
func strips(w int) []api.Topo {
	return []api.Topo{{Kind: api.Plane, W: w}, {Kind: api.Torus, W: w}}
}

// drawn are rows: a digit is a state.
func drawn(lines ...string) [][]uint8 {
	var all [][]uint8
	for _, line := range lines {
		row := []uint8(line)
		for x := range row {
			row[x] -= '0'
		}
		all = append(all, row)
	}
	return all
}

// brief is a rule as a test tells it.
func brief(r api.Rule) api.Rule {
	if len(r.Table.Rows) > 8 {
		r.Table.Rows = r.Table.Rows[:8]
	}
	return r
}

// short is the beginning of a list, as a test tells it.
func short[T any](list []T) []T { return list[:min(len(list), 40)] }

// wrongRules are rules that may not be, of each kind and of none.
func wrongRules() []api.Rule {
	wrongRow := wind(api.Moore, 0, 2)
	wrongRow.Table.Rows[0].Around = wrongRow.Table.Rows[0].Around[1:]
	noName, withGens := wind(api.Neumann, 0, 2), wind(api.Hex, 0, 2)
	noName.Name = ""
	withGens.Gens = conway().Gens
	named, many := conway(), conway()
	named.Name = "t"
	many.Gens.States = 3
	return []api.Rule{{}, {Kind: 4}, {Kind: 255, Gens: conway().Gens}, {Kind: api.KindLife}, births(0, 1<<3, 1<<2), births(4, 1<<3, 1<<2), births(api.Moore, 1<<9, 0), births(api.Neumann, 1<<3, 1<<5), births(api.Hex, 1<<7, 0),
		named, many, fading(api.Moore, 1<<3, 0, 1), fading(api.Moore, 1<<3, 0, 0), fading(api.Moore, 1<<3, 0, 257), fading(api.Moore, 1<<3, 0, -1), fading(9, 1<<3, 0, 2),
		wrongRow, noName, withGens, tabled(api.Table{}), tabled(api.Table{States: 1, Hood: api.Moore}), tabled(api.Table{States: 257, Hood: api.Moore}), tabled(api.Table{States: 2}), tabled(api.Table{States: 2, Hood: api.Moore, Symmetry: 11})}
}

// loudRules wake empty space, one of each kind and neighbourhood.
func loudRules() []api.Rule {
	var all []api.Rule
	for _, near := range []uint8{api.Moore, api.Neumann, api.Hex} {
		woken := api.Table{States: 3, Hood: near, Symmetry: api.SymPermute}
		row := api.Trans{Centre: st(0), Out: st(2)}
		for range offsets[near] {
			row.Around = append(row.Around, st(0))
		}
		woken.Rows = []api.Trans{row}
		all = append(all, births(near, 1, 0), births(near, 1|1<<3, 1<<2), fading(near, 1, 1<<1, 7), tabled(woken))
	}
	return all
}

// anyTopos are topologies of each kind and of none, with sides that may be and that may not, turned and not.
func anyTopos() []api.Topo {
	var all []api.Topo
	for kind := range uint8(7) {
		for _, w := range []int{math.MinInt, -1, 0, 1, 4, 1 << 16, 1<<16 + 1, math.MaxInt} {
			for _, h := range []int{math.MinInt, -1, 0, 1, 4, 1 << 16, 1<<16 + 1, math.MaxInt} {
				for turn := range uint8(4) {
					for _, shift := range []int{-1, 0, 1} {
						all = append(all, api.Topo{Kind: kind, W: w, H: h, Turn: turn, Shift: shift})
					}
				}
			}
		}
	}
	return all
}

// someRules are rules of three states, of two and of 256, one that wakes empty space, one that may not be.
func someRules() []api.Rule {
	return []api.Rule{fading(api.Moore, 1<<2, 1<<3, 3), hushed(wind(api.Hex, 1, 3)), conway(), tabled(api.Table{States: 256, Hood: api.Neumann}), fading(api.Hex, 1, 0, 3), births(4, 1<<3, 0)}
}

// someTopos are strips of three columns, and topologies that are none.
func someTopos() []api.Topo {
	return append(strips(3), api.Topo{Kind: api.Torus, H: 3}, api.Topo{Kind: api.Plane}, api.Topo{Kind: api.Torus, W: 3, H: 3}, api.Topo{Kind: api.Cross, W: 3})
}
