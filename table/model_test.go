package table_test

import (
	"errors"
	"iter"
	"maps"
	"math/big"
	"regexp"
	"slices"
	"strings"
	"testing"

	"vivarium/api"
	"vivarium/table"
)

// The models: a line is cut into tokens by a pattern ahead of being looked at, and numbers are great ones; a symmetry's orders are picked out of all orders by the chapter's sums; a row is tried with all states of its variables.

var hoods = []uint8{api.Moore, api.Neumann, api.Hex}

var sizes = map[uint8]int{api.Moore: 8, api.Neumann: 4, api.Hex: 6}

var hoodWord = map[uint8]string{api.Moore: "Moore", api.Neumann: "vonNeumann", api.Hex: "hexagonal"}

// symmetry is a row of the chapter's table: (i + k) mod n, if there, and (k - i) mod n, if back, for all k that are multiples of n / parts.
type symmetry struct {
	word        string
	of          []uint8
	parts       int
	there, back bool
}

var symmetries = map[uint8]symmetry{
	0:  {"none", hoods, 1, true, false},
	1:  {"rotate4", hoods[:2], 4, true, false},
	2:  {"rotate8", hoods[:1], 8, true, false},
	3:  {"reflect_horizontal", hoods[:2], 1, true, true},
	4:  {"rotate4reflect", hoods[:2], 4, true, true},
	5:  {"rotate8reflect", hoods[:1], 8, true, true},
	6:  {"permute", hoods, 0, false, false},
	7:  {"rotate2", hoods[2:], 2, true, false},
	8:  {"rotate3", hoods[2:], 3, true, false},
	9:  {"rotate6", hoods[2:], 6, true, false},
	10: {"rotate6reflect", hoods[2:], 6, true, true},
}

// pair is a symmetry with a neighbourhood of which it is.
type pair struct{ symmetry, hood uint8 }

// pairs are all of them, in one order.
func pairs() []pair {
	var list []pair
	for s := range uint8(11) {
		for _, h := range symmetries[s].of {
			list = append(list, pair{s, h})
		}
	}
	return list
}

// everyOrder goes through all orders of n numbers, rising, behind those that are chosen.
func everyOrder(n int, chosen []int, see func([]int)) {
	if len(chosen) == n {
		see(slices.Clone(chosen))
	}
	for i := range n {
		if !slices.Contains(chosen, i) {
			everyOrder(n, append(slices.Clone(chosen), i), see)
		}
	}
}

// takes tells whether a symmetry takes an order for the first one.
func (s symmetry) takes(g []int) bool {
	n := len(g)
	if s.parts == 0 {
		return true
	}
	for k := 0; k < n; k += n / s.parts {
		there, back := s.there, s.back
		for i := range g {
			there = there && g[i] == (i+k)%n
			back = back && g[i] == (k+n-i)%n
		}
		if there || back {
			return true
		}
	}
	return false
}

// groups keeps what modelGroup has picked out.
var groups = map[pair][][]int{}

// modelGroup are a symmetry's orders.
func modelGroup(p pair) [][]int {
	if groups[p] == nil {
		everyOrder(sizes[p.hood], nil, func(g []int) {
			if symmetries[p.symmetry].takes(g) {
				groups[p] = append(groups[p], g)
			}
		})
	}
	return groups[p]
}

// everyChoice goes through all states of the variables.
func everyChoice(t api.Table, vars []int) iter.Seq[map[int]uint8] {
	return func(yield func(map[int]uint8) bool) {
		if len(vars) == 0 {
			yield(map[int]uint8{})
			return
		}
		for rest := range everyChoice(t, vars[1:]) {
			for _, s := range t.Vars[vars[0]].States {
				rest[vars[0]] = s
				if !yield(rest) {
					return
				}
			}
		}
	}
}

// varsOf are the variables of a row, each once.
func varsOf(row api.Trans) []int {
	var list []int
	for _, term := range append([]api.Term{row.Centre, row.Out}, row.Around...) {
		if term.Var >= 0 && !slices.Contains(list, term.Var) {
			list = append(list, term.Var)
		}
	}
	return list
}

// worth is a term's state by a choice.
func worth(term api.Term, choice map[int]uint8) uint8 {
	if term.Var >= 0 {
		return choice[term.Var]
	}
	return term.State
}

// modelFits is what Fits answers of a row that is there and of states that may be.
func modelFits(t api.Table, row api.Trans, centre uint8, around []uint8) (uint8, bool) {
	for _, g := range modelGroup(pair{t.Symmetry, t.Hood}) {
		for choice := range everyChoice(t, varsOf(row)) {
			fits := worth(row.Centre, choice) == centre
			for i := 0; fits && i < len(g); i++ {
				fits = worth(row.Around[i], choice) == around[g[i]]
			}
			if fits {
				return worth(row.Out, choice), true
			}
		}
	}
	return 0, false
}

// modelNext is what Next answers of states that may be.
func modelNext(t api.Table, centre uint8, around []uint8) uint8 {
	for _, row := range t.Rows {
		if out, fits := modelFits(t, row, centre, around); fits {
			return out
		}
	}
	return centre
}

// The pieces into which a line is cut.
var (
	pieces   = regexp.MustCompile(`(?s)[0-9]+|[A-Za-z][A-Za-z0-9_-]*|[ \t]+|.`)
	isNumber = regexp.MustCompile(`^[0-9]`)
	isName   = regexp.MustCompile(`^[A-Za-z]`)
	inked    = regexp.MustCompile(`(?s)[^ \t](?:.*[^ \t])?`)
)

// fault is what is wrong with a text, and where.
type fault struct {
	code api.Errno
	at   int
}

var well = fault{}

// model reads a text.
type model struct {
	table api.Table
	lines int // that are not passed over
}

// modelParse is what Parse answers.
func modelParse(text string) (api.Table, fault) {
	if len(text) > 1<<20 {
		return api.Table{}, fault{api.ErrText, 0}
	}
	var m model
	at := 0
	for _, line := range strings.SplitAfter(text, "\n") {
		bare := strings.TrimSuffix(strings.TrimSuffix(line, "\n"), "\r")
		if ink := inked.FindStringIndex(bare); ink != nil && bare[ink[0]] != '#' {
			if f := m.read(bare[ink[0]:ink[1]], at+ink[0]); f != well {
				return api.Table{}, f
			}
			m.lines++
		}
		at += len(line)
	}
	if m.lines < 3 {
		return api.Table{}, fault{api.ErrLine, len(text)}
	}
	return m.table, well
}

// tokens are the pieces of a line that are no blanks, and nothing at its end.
func tokens(line string, at int) []api.Span {
	var list []api.Span
	for _, place := range pieces.FindAllStringIndex(line, -1) {
		if piece := line[place[0]:place[1]]; strings.Trim(piece, " \t") != "" {
			list = append(list, api.Span{At: at + place[0], Text: piece})
		}
	}
	return append(list, api.Span{At: at + len(line)})
}

func (m *model) read(line string, at int) fault {
	list := tokens(line, at)
	switch {
	case m.lines < 3:
		return m.readHead(list)
	case list[0].Text == "var":
		return m.readVar(list)
	case len(m.table.Rows) == 1<<12:
		return fault{api.ErrMany, at}
	case strings.Contains(line, ","):
		return m.readRow(list)
	}
	list = nil
	for i := range len(line) {
		if i > 0 {
			list = append(list, api.Span{At: at + i, Text: ","})
		}
		list = append(list, api.Span{At: at + i, Text: line[i : i+1]})
	}
	return m.readRow(append(list, api.Span{At: at + len(line)}))
}

func (m *model) readHead(list []api.Span) fault {
	if list[0].Text != [3]string{"n_states", "neighborhood", "symmetries"}[m.lines] {
		return fault{api.ErrLine, list[0].At}
	}
	if list[1].Text != ":" {
		return fault{api.ErrLine, list[1].At}
	}
	is := false
	switch m.lines {
	case 0:
		n, number := new(big.Int).SetString(list[2].Text, 10)
		if is = number && isNumber.MatchString(list[2].Text) && n.Cmp(big.NewInt(2)) >= 0 && n.Cmp(big.NewInt(256)) <= 0; is {
			m.table.States = int(n.Int64())
		}
	case 1:
		for h, word := range hoodWord {
			if word == list[2].Text {
				is, m.table.Hood = true, h
			}
		}
	case 2:
		for s, row := range symmetries {
			if row.word == list[2].Text && slices.Contains(row.of, m.table.Hood) {
				is, m.table.Symmetry = true, s
			}
		}
	}
	if !is {
		return fault{[3]api.Errno{api.ErrStates, api.ErrNear, api.ErrSymmetry}[m.lines], list[2].At}
	}
	if list[3].Text != "" {
		return fault{api.ErrLine, list[3].At}
	}
	return well
}

func (m *model) readVar(list []api.Span) fault {
	if len(m.table.Vars) == 64 {
		return fault{api.ErrMany, list[0].At}
	}
	name := list[1].Text
	switch {
	case !isName.MatchString(name):
		return fault{api.ErrLine, list[1].At}
	case len(name) > 32 || name == "var" || m.number(name) >= 0:
		return fault{api.ErrVar, list[1].At}
	case list[2].Text != "=":
		return fault{api.ErrLine, list[2].At}
	case list[3].Text != "{":
		return fault{api.ErrLine, list[3].At}
	}
	has := map[uint8]bool{}
	end := 3
	for end == 3 || list[end].Text == "," {
		term, f := m.term(list[end+1])
		if f != well {
			return f
		}
		has[term.State] = has[term.State] || term.Var < 0
		if term.Var >= 0 {
			for _, s := range m.table.Vars[term.Var].States {
				has[s] = true
			}
		}
		end += 2
	}
	if list[end].Text != "}" {
		return fault{api.ErrLine, list[end].At}
	}
	if list[end+1].Text != "" {
		return fault{api.ErrLine, list[end+1].At}
	}
	maps.DeleteFunc(has, func(_ uint8, is bool) bool { return !is })
	m.table.Vars = append(m.table.Vars, api.Var{Name: name, States: slices.Sorted(maps.Keys(has))})
	return well
}

// number is a variable's, or -1.
func (m *model) number(name string) int {
	return slices.IndexFunc(m.table.Vars, func(v api.Var) bool { return v.Name == name })
}

func (m *model) term(piece api.Span) (api.Term, fault) {
	switch {
	case isNumber.MatchString(piece.Text):
		n, _ := new(big.Int).SetString(piece.Text, 10)
		if n.Cmp(big.NewInt(int64(m.table.States))) >= 0 {
			return api.Term{}, fault{api.ErrState, piece.At}
		}
		return api.Term{State: uint8(n.Int64()), Var: -1}, well
	case isName.MatchString(piece.Text):
		if n := m.number(piece.Text); n >= 0 {
			return api.Term{Var: n}, well
		}
		return api.Term{}, fault{api.ErrVar, piece.At}
	}
	return api.Term{}, fault{api.ErrLine, piece.At}
}

func (m *model) readRow(list []api.Span) fault {
	if len(m.table.Rows) == 1<<12 {
		return fault{api.ErrMany, list[0].At}
	}
	var terms []api.Term
	for i, piece := range list {
		if i%2 == 0 {
			term, f := m.term(piece)
			if f != well {
				return f
			}
			terms = append(terms, term)
			continue
		}
		if piece.Text == "" {
			break
		}
		if piece.Text != "," {
			return fault{api.ErrLine, piece.At}
		}
	}
	n := sizes[m.table.Hood]
	if len(terms) != n+2 {
		return fault{api.ErrTrans, list[0].At}
	}
	if last := terms[n+1]; last.Var >= 0 && !slices.Contains(terms[:n+1], last) {
		return fault{api.ErrVar, list[2*(n+1)].At}
	}
	m.table.Rows = append(m.table.Rows, api.Trans{Centre: terms[0], Around: terms[1 : n+1], Out: terms[n+1]})
	return well
}

// same tells whether two tables are the same, a list of nothing being as good as another.
func same(a, b api.Table) bool {
	return a.States == b.States && a.Hood == b.Hood && a.Symmetry == b.Symmetry &&
		slices.EqualFunc(a.Vars, b.Vars, func(v, w api.Var) bool { return v.Name == w.Name && slices.Equal(v.States, w.States) }) &&
		slices.EqualFunc(a.Rows, b.Rows, func(r, s api.Trans) bool {
			return r.Centre == s.Centre && r.Out == s.Out && slices.Equal(r.Around, s.Around)
		})
}

// clone is the same table in memory of its own.
func clone(t api.Table) api.Table {
	t.Vars, t.Rows = slices.Clone(t.Vars), slices.Clone(t.Rows)
	for i, v := range t.Vars {
		t.Vars[i].States = slices.Clone(v.States)
	}
	for i, r := range t.Rows {
		t.Rows[i].Around = slices.Clone(r.Around)
	}
	return t
}

// st is the term of a state, va that of a variable.
func st(state uint8) api.Term { return api.Term{State: state, Var: -1} }

func va(number int) api.Term { return api.Term{Var: number} }

// row is a row of the centre's term, the neighbours', and what comes out.
func row(terms ...api.Term) api.Trans {
	last := len(terms) - 1
	return api.Trans{Centre: terms[0], Around: slices.Clone(terms[1:last]), Out: terms[last]}
}

// dice tells numbers that look as if they came by chance, but are the same each time.
type dice uint64

// below is a number from 0 to n - 1.
func (d *dice) below(n int) int {
	*d = *d*6364136223846793005 + 1442695040888963407
	return int(uint64(*d)>>33) % n
}

// states are n numbers below a number of states.
func (d *dice) states(n, states int) []uint8 {
	list := make([]uint8, n)
	for i := range list {
		list[i] = uint8(d.below(states))
	}
	return list
}

// some are states, rising, one at least.
func (d *dice) some(states int) []uint8 {
	list := d.states(1+d.below(states), states)
	slices.Sort(list)
	return slices.Compact(list)
}

// table is a table that may be, of two to five states and two to four variables.
func (d *dice) table(p pair, rows int) api.Table {
	t := api.Table{States: 2 + d.below(4), Hood: p.hood, Symmetry: p.symmetry}
	for i := range 2 + d.below(3) {
		t.Vars = append(t.Vars, api.Var{Name: "abcd"[i : i+1], States: d.some(t.States)})
	}
	for range rows {
		t.Rows = append(t.Rows, d.row(t))
	}
	return t
}

// row is a row that may be in the table.
func (d *dice) row(t api.Table) api.Trans {
	var terms []api.Term
	for range sizes[t.Hood] + 1 {
		terms = append(terms, d.term(t))
	}
	out := st(uint8(d.below(t.States)))
	if d.below(2) == 0 {
		out = terms[d.below(len(terms))]
	}
	return row(append(terms, out)...)
}

// term is a term that may be in the table, more often a variable.
func (d *dice) term(t api.Table) api.Term {
	if d.below(3) == 0 {
		return st(uint8(d.below(t.States)))
	}
	return va(d.below(len(t.Vars)))
}

// parse is Parse, its error as a fault; one that is nil, or no *api.Fault, is told apart.
func parse(text string) (k api.Table, f fault, isNil bool) {
	k, err := table.Parse(text)
	var told *api.Fault
	if errors.As(err, &told) && told != nil {
		f = fault{told.Code, told.At}
	}
	return k, f, err == nil
}

func mustParse(t *testing.T, text string) api.Table {
	t.Helper()
	k, f, isNil := parse(text)
	if !isNil {
		t.Fatalf("Parse(%q): %v", brief(text), f)
	}
	return k
}

func mustPrint(t *testing.T, k api.Table) string {
	t.Helper()
	text, e := table.Print(k)
	if e != api.OK {
		t.Fatalf("Print(%v): %d", k, e)
	}
	return text
}

func mustGroup(t *testing.T, p pair) [][]int {
	t.Helper()
	orders, e := table.Group(p.symmetry, p.hood)
	if e != api.OK {
		t.Fatalf("Group(%d, %d): %d", p.symmetry, p.hood, e)
	}
	return orders
}

func mustNext(t *testing.T, k api.Table, centre uint8, around []uint8) uint8 {
	t.Helper()
	next, e := table.Next(k, centre, around)
	if e != api.OK {
		t.Fatalf("Next(%v, %d, %v): %d", k, centre, around, e)
	}
	return next
}

// brief is a text as a test tells it.
func brief(s string) string {
	if len(s) > 300 {
		return s[:200] + ".." + s[len(s)-60:]
	}
	return s
}

// lists are the orders of both the same.
func lists(a, b [][]int) bool { return slices.EqualFunc(a, b, slices.Equal[[]int]) }
