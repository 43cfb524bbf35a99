package rule_test

import (
	"errors"
	"iter"
	"slices"
	"testing"

	"vivarium/api"
	"vivarium/life"
	"vivarium/rule"
	"vivarium/table"
)

// The models: neighbours are kept by their offsets, written out here, and parts are formulas over x and y; what a rule of births and stays says is counted anew; what a table says is what table.Next says of it, as the chapter has it.

var hoods = []uint8{api.Moore, api.Neumann, api.Hex}

var offsets = map[uint8][]api.Point{
	api.Moore:   {{X: 0, Y: -1}, {X: 1, Y: -1}, {X: 1, Y: 0}, {X: 1, Y: 1}, {X: 0, Y: 1}, {X: -1, Y: 1}, {X: -1, Y: 0}, {X: -1, Y: -1}},
	api.Neumann: {{X: 0, Y: -1}, {X: 1, Y: 0}, {X: 0, Y: 1}, {X: -1, Y: 0}},
	api.Hex:     {{X: 0, Y: -1}, {X: 1, Y: 0}, {X: 1, Y: 1}, {X: 0, Y: 1}, {X: -1, Y: 0}, {X: -1, Y: -1}},
}

// partAt is where a linear part takes a place.
func partAt(part int, p api.Point) api.Point {
	x, y := p.X, p.Y
	return [8]api.Point{{X: x, Y: y}, {X: -y, Y: x}, {X: -x, Y: -y}, {X: y, Y: -x}, {X: x, Y: -y}, {X: y, Y: x}, {X: -x, Y: y}, {X: -y, Y: -x}}[part]
}

// both is the part that two parts make, one behind the other.
func both(first, second int) int {
	p := api.Point{X: 1, Y: 2}
	for k := range 8 {
		if partAt(k, p) == partAt(second, partAt(first, p)) {
			return k
		}
	}
	panic("no part")
}

// seen are neighbours as they are seen by a part; false, if it does not keep the neighbourhood.
func seen[T any](near uint8, part int, around []T) ([]T, bool) {
	out := make([]T, len(around))
	for i, p := range offsets[near] {
		n := slices.Index(offsets[near], partAt(part, p))
		if n < 0 {
			return nil, false
		}
		out[n] = around[i]
	}
	return out, true
}

// exchanged are neighbours with rows and columns exchanged.
func exchanged[T any](near uint8, around []T) []T {
	out, _ := seen(near, 5, around)
	return out
}

// pair is a symmetry with a neighbourhood of which it is.
type pair struct{ symmetry, hood uint8 }

// pairs are all of them.
var pairs = allPairs()

func allPairs() []pair {
	var list []pair
	for _, h := range hoods {
		for s := range uint8(11) {
			if _, e := table.Group(s, h); e == api.OK {
				list = append(list, pair{s, h})
			}
		}
	}
	return list
}

// everyRow goes through all rows of n states.
func everyRow(states, n int) iter.Seq[[]uint8] {
	return func(yield func([]uint8) bool) {
		count := 1
		for range n {
			count *= states
		}
		for number := range count {
			row := make([]uint8, n)
			for i, rest := 0, number; i < n; i, rest = i+1, rest/states {
				row[i] = uint8(rest % states)
			}
			if !yield(row) {
				return
			}
		}
	}
}

// modelNext is what a rule says that may be.
func modelNext(r api.Rule, centre uint8, around []uint8) uint8 {
	if r.Kind == api.KindTable {
		next, e := table.Next(r.Table, centre, around)
		if e != api.OK {
			panic(e)
		}
		return next
	}
	ones := 0
	for _, state := range around {
		if state == 1 {
			ones++
		}
	}
	switch {
	case centre == 0:
		return uint8(r.Gens.Life.Born >> ones & 1)
	case centre == 1 && r.Gens.Life.Stay>>ones&1 == 1:
		return 1
	}
	return uint8((int(centre) + 1) % r.Gens.States)
}

// statesOf and hoodOf are a rule's, by its fields.
func statesOf(r api.Rule) int {
	if r.Kind == api.KindTable {
		return r.Table.States
	}
	return r.Gens.States
}

func hoodOf(r api.Rule) uint8 {
	if r.Kind == api.KindTable {
		return r.Table.Hood
	}
	return r.Gens.Life.Hood
}

func sizeOf(r api.Rule) int { return len(offsets[hoodOf(r)]) }

// same tells whether two rules are the same, a list of nothing being as good as another.
func same(a, b api.Rule) bool {
	return a.Kind == b.Kind && a.Gens == b.Gens && a.Name == b.Name &&
		a.Table.States == b.Table.States && a.Table.Hood == b.Table.Hood && a.Table.Symmetry == b.Table.Symmetry &&
		slices.EqualFunc(a.Table.Vars, b.Table.Vars, func(v, w api.Var) bool { return v.Name == w.Name && slices.Equal(v.States, w.States) }) &&
		slices.EqualFunc(a.Table.Rows, b.Table.Rows, func(r, s api.Trans) bool {
			return r.Centre == s.Centre && r.Out == s.Out && slices.Equal(r.Around, s.Around)
		})
}

// clone is the same rule in memory of its own.
func clone(r api.Rule) api.Rule {
	r.Table.Vars, r.Table.Rows = slices.Clone(r.Table.Vars), slices.Clone(r.Table.Rows)
	for i, v := range r.Table.Vars {
		r.Table.Vars[i].States = slices.Clone(v.States)
	}
	for i, row := range r.Table.Rows {
		r.Table.Rows[i].Around = slices.Clone(row.Around)
	}
	return r
}

// brief is a rule as a test tells it.
func brief(r api.Rule) api.Rule {
	if len(r.Table.Rows) > 20 {
		r.Table.Rows = nil
	}
	if len(r.Name) > 100 {
		r.Name = r.Name[:100]
	}
	return r
}

// st is the term of a state, va that of a variable.
func st(state uint8) api.Term { return api.Term{State: state, Var: -1} }

func va(number int) api.Term { return api.Term{Var: number} }

// line is a row of the centre's term, the neighbours', and what comes out.
func line(terms ...api.Term) api.Trans {
	last := len(terms) - 1
	return api.Trans{Centre: terms[0], Around: slices.Clone(terms[1:last]), Out: terms[last]}
}

// lineOf is a line of states alone.
func lineOf(states ...uint8) api.Trans {
	var terms []api.Term
	for _, s := range states {
		terms = append(terms, st(s))
	}
	return line(terms...)
}

// anyState is a variable that stands for all of so many states.
func anyState(name string, states int) api.Var {
	v := api.Var{Name: name}
	for s := range states {
		v.States = append(v.States, uint8(s))
	}
	return v
}

// tabled is a rule of KindTable.
func tabled(k api.Table) api.Rule { return api.Rule{Kind: api.KindTable, Name: "t", Table: k} }

// fading is a rule of KindGens, born at two and staying at three and four, as far as there are so many neighbours.
func fading(near uint8, states int) api.Rule {
	return api.Rule{Kind: api.KindGens, Gens: api.Gens{Life: api.Life{Hood: near, Born: 1 << 2, Stay: 1<<3 | 1<<4}, States: states}}
}

// born is the rule of KindLife of a text.
func born(t *testing.T, text string) api.Rule {
	t.Helper()
	l, _, e := life.Parse(text)
	if e != api.OK {
		t.Fatalf("life.Parse(%q): %d", text, e)
	}
	return api.Rule{Kind: api.KindLife, Gens: api.Gens{Life: l, States: 2}}
}

// The tables of the chapter's Examples.
const (
	textT = "n_states:3\nneighborhood:vonNeumann\nsymmetries:rotate4\nvar a={0,1}\n0,1,a,a,a,2\n"
	textW = "n_states:2\nneighborhood:vonNeumann\nsymmetries:none\n0,1,0,0,0,1\n"
)

// ruleT and ruleW are the rules that a book has of them.
func ruleT() api.Rule {
	return api.Rule{Kind: api.KindTable, Name: "t", Table: api.Table{States: 3, Hood: api.Neumann, Symmetry: api.SymRotate4,
		Vars: []api.Var{{Name: "a", States: []uint8{0, 1}}}, Rows: []api.Trans{line(st(0), st(1), va(0), va(0), va(0), st(2))}}}
}

func ruleW() api.Rule {
	return api.Rule{Kind: api.KindTable, Name: "w", Table: api.Table{States: 2, Hood: api.Neumann, Rows: []api.Trans{lineOf(0, 1, 0, 0, 0, 1)}}}
}

// bookOf is a book with the two.
func bookOf(t *testing.T) *rule.Book {
	t.Helper()
	b := rule.New()
	define(t, b, "t", textT)
	define(t, b, "w", textW)
	return b
}

func define(t *testing.T, b *rule.Book, name, text string) {
	t.Helper()
	if err := b.Define(name, text); err != nil {
		t.Fatalf("Define(%q): %v", name, err)
	}
}

// fault is what an error tells; one that has no *api.Fault is told apart.
func fault(err error) api.Fault {
	var told *api.Fault
	if !errors.As(err, &told) || told == nil {
		return api.Fault{Code: -1, At: -1}
	}
	return *told
}

// isRefused looks at an error of Define.
func isRefused(t *testing.T, what string, err error, want api.Fault) {
	t.Helper()
	if got := fault(err); got != want {
		t.Errorf("%s: %v, not %v", what, got, want)
	}
}

func mustNext(t *testing.T, r api.Rule, centre uint8, around []uint8) uint8 {
	t.Helper()
	next, e := rule.Next(r, centre, around)
	if e != api.OK {
		t.Fatalf("Next(%v, %d, %v): %d", brief(r), centre, around, e)
	}
	return next
}

func mustAcross(t *testing.T, r api.Rule) api.Rule {
	t.Helper()
	made, e := rule.Across(r)
	if e != api.OK {
		t.Fatalf("Across(%v): %d", brief(r), e)
	}
	return made
}

func mustKeep(t *testing.T, r api.Rule, part int) bool {
	t.Helper()
	is, e := rule.Keeps(r, part)
	if e != api.OK {
		t.Fatalf("Keeps(%v, %d): %d", brief(r), part, e)
	}
	return is
}

// dice tells numbers that look as if they came by chance, but are the same each time.
type dice uint64

// below is a number from 0 to n - 1.
func (d *dice) below(n int) int {
	*d = *d*6364136223846793005 + 1442695040888963407
	return int(uint64(*d)>>33) % n
}

// states are n numbers below a number of states.
func (d *dice) states(n, states int) []uint8 {
	list := make([]uint8, n)
	for i := range list {
		list[i] = uint8(d.below(states))
	}
	return list
}

// some are states, rising, one at least.
func (d *dice) some(states int) []uint8 {
	list := d.states(1+d.below(states), states)
	slices.Sort(list)
	return slices.Compact(list)
}

// Where a line's Out may come from.
const (
	outState  = 0 // a state
	outCentre = 1 // the centre's term
	outAround = 2 // a neighbour's term
	outAny    = 3
)

// table is a rule of KindTable that may be, with two to four variables.
func (d *dice) table(p pair, states, rows, out int) api.Rule {
	k := api.Table{States: states, Hood: p.hood, Symmetry: p.symmetry}
	for i := range 2 + d.below(3) {
		k.Vars = append(k.Vars, api.Var{Name: "abcd"[i : i+1], States: d.some(states)})
	}
	for range rows {
		k.Rows = append(k.Rows, d.line(k, out))
	}
	return tabled(k)
}

// line is a line that may be in the table.
func (d *dice) line(k api.Table, out int) api.Trans {
	var terms []api.Term
	for range len(offsets[k.Hood]) + 1 {
		terms = append(terms, d.term(k))
	}
	if out == outAny {
		out = d.below(3)
	}
	return line(append(terms, [3]api.Term{st(uint8(d.below(k.States))), terms[0], terms[1+d.below(len(terms)-1)]}[out])...)
}

// term is a term that may be in the table, more often a variable.
func (d *dice) term(k api.Table) api.Term {
	if d.below(3) == 0 {
		return st(uint8(d.below(k.States)))
	}
	return va(d.below(len(k.Vars)))
}

// counts is a rule of births and stays that may be, of KindLife or of KindGens.
func (d *dice) counts(near uint8) api.Rule {
	all := 1<<(len(offsets[near])+1) - 1
	r := api.Rule{Kind: api.KindLife, Gens: api.Gens{Life: api.Life{Hood: near, Born: uint16(d.below(1<<16) & all), Stay: uint16(d.below(1<<16) & all)}, States: 2}}
	if d.below(2) == 0 {
		r.Kind, r.Gens.States = api.KindGens, 2+d.below(255)
	}
	return r
}
