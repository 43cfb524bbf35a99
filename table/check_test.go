package table_test

import (
	"math"
	"strconv"
	"strings"
	"testing"

	"vivarium/api"
	"vivarium/table"
)

// P10.1: which tables may be, and why not.

// checks looks at what Check says.
func checks(t *testing.T, what string, k api.Table, want api.Errno) {
	t.Helper()
	if e := table.Check(k); e != want {
		t.Errorf("%s: Check = %d, not %d", what, e, want)
	}
}

// base is a table of three states with two variables and two rows.
func base() api.Table {
	return api.Table{
		States: 3, Hood: api.Neumann, Symmetry: api.SymRotate4,
		Vars: []api.Var{{Name: "a", States: []uint8{0, 1}}, {Name: "b-2", States: []uint8{0, 1, 2}}},
		Rows: []api.Trans{row(st(0), st(1), va(0), va(0), va(0), st(2)), row(va(1), st(2), va(0), st(0), va(1), va(1))},
	}
}

// manyVars are n variables with names of MaxName bytes.
func manyVars(n int) []api.Var {
	var list []api.Var
	for i := range n {
		name := "v" + strconv.Itoa(i) + strings.Repeat("_", 32)
		list = append(list, api.Var{Name: name[:32], States: []uint8{0}})
	}
	return list
}

// manyRows are n rows of the neighbourhood, each the same.
func manyRows(n int, h uint8) []api.Trans {
	list := make([]api.Trans, n)
	for i := range list {
		list[i] = api.Trans{Centre: st(0), Out: st(1)}
		for range sizes[h] {
			list[i].Around = append(list[i].Around, st(1))
		}
	}
	return list
}

func TestCheckOfTablesThatMayBe(t *testing.T) {
	checks(t, "base", base(), api.OK)
	for _, p := range pairs() {
		for _, states := range []int{2, 3, 255, 256} {
			checks(t, "nothing more", api.Table{States: states, Hood: p.hood, Symmetry: p.symmetry}, api.OK)
			checks(t, "empty lists", api.Table{States: states, Hood: p.hood, Symmetry: p.symmetry, Vars: []api.Var{}, Rows: []api.Trans{}}, api.OK)
		}
		full := api.Table{States: 2, Hood: p.hood, Symmetry: p.symmetry, Vars: manyVars(api.MaxVars), Rows: manyRows(api.MaxRows, p.hood)}
		checks(t, "as much as may be", full, api.OK)
	}
	var every []uint8
	for s := range 256 {
		every = append(every, uint8(s))
	}
	great := api.Table{States: 256, Hood: api.Neumann, Vars: []api.Var{{Name: "Z", States: every}}}
	great.Rows = []api.Trans{row(st(255), st(255), st(0), va(0), st(254), va(0)), row(va(0), va(0), va(0), va(0), va(0), va(0)), row(va(0), st(1), st(1), st(1), st(1), va(0)), row(va(0), va(0), va(0), va(0), va(0), st(255))}
	checks(t, "256 states", great, api.OK)
}

func TestCheckOfStates(t *testing.T) {
	for _, states := range []int{math.MinInt, -1 << 32, -256, -2, -1, 0, 1, 257, 258, 512, 1<<16 + 3, 1<<32 + 3, math.MaxInt} {
		k := base()
		k.States = states
		checks(t, "States "+strconv.Itoa(states), k, api.ErrStates)
	}
	checks(t, "a zero table", api.Table{}, api.ErrStates)
	for states := 2; states <= 256; states++ {
		checks(t, "States "+strconv.Itoa(states), api.Table{States: states, Hood: api.Hex}, api.OK)
	}
}

func TestCheckOfHoodsAndSymmetries(t *testing.T) {
	for h := range 256 {
		for s := range 256 {
			k := api.Table{States: 2, Hood: uint8(h), Symmetry: uint8(s)}
			want := api.ErrSymmetry
			if sizes[k.Hood] == 0 {
				want = api.ErrHood
			}
			for _, p := range pairs() {
				if p == (pair{k.Symmetry, k.Hood}) {
					want = api.OK
				}
			}
			checks(t, "hood "+strconv.Itoa(h)+", symmetry "+strconv.Itoa(s), k, want)
		}
	}
}

func TestCheckOfTooMuch(t *testing.T) {
	k := base()
	k.Vars = manyVars(api.MaxVars + 1)
	checks(t, "65 variables", k, api.ErrMany)
	k = base()
	k.Rows = manyRows(api.MaxRows+1, api.Neumann)
	checks(t, "4097 rows", k, api.ErrMany)
	k.Vars = manyVars(api.MaxVars + 1)
	checks(t, "both", k, api.ErrMany)
	checks(t, "variables and rows that are nothing", api.Table{States: 2, Hood: api.Hex, Vars: make([]api.Var, 65), Rows: make([]api.Trans, 4097)}, api.ErrMany)
}

func TestCheckOfNames(t *testing.T) {
	wrong := []string{
		"", "1", "1a", "-a", "_a", " a", "a ", "a b", "a.", "a,b", "a\n", "a\r", "a\t", "a\x00", "#", "=", "a{", "\xe4", "a\xe4", "é", "aé", "var",
		"a" + strings.Repeat("b", 32), strings.Repeat("x", 33), strings.Repeat("y", 1<<20),
	}
	for b := range 256 {
		letter := 'a' <= b && b <= 'z' || 'A' <= b && b <= 'Z'
		more := letter || '0' <= b && b <= '9' || b == '-' || b == '_'
		for name, is := range map[string]bool{string([]byte{byte(b)}): letter, "q" + string([]byte{byte(b)}): more} {
			k := api.Table{States: 2, Hood: api.Moore, Vars: []api.Var{{Name: name, States: []uint8{1}}}}
			if is {
				checks(t, strconv.Quote(name), k, api.OK)
			} else {
				checks(t, strconv.Quote(name), k, api.ErrVar)
			}
		}
	}
	for _, name := range wrong {
		for i := range 2 {
			k := base()
			k.Vars[i].Name = name
			checks(t, strconv.Quote(brief(name)), k, api.ErrVar)
		}
	}
	for _, name := range []string{"Var", "VAR", "var1", "vara", "va", "var-", "var_", "avar", "n_states", "Z", strings.Repeat("x", 32)} {
		for i := range 2 {
			k := base()
			k.Vars[i].Name = name
			checks(t, strconv.Quote(name), k, api.OK)
		}
	}
}

func TestCheckOfNamesThatStandTwice(t *testing.T) {
	for i := range api.MaxVars {
		for j := range i {
			k := base()
			k.Vars = manyVars(api.MaxVars)
			k.Vars[i].Name = k.Vars[j].Name
			checks(t, "twice", k, api.ErrVar)
		}
	}
	k := base()
	k.Vars[0].Name, k.Vars[1].Name = "a", "A"
	checks(t, "great and small", k, api.OK)
}

func TestCheckOfVariablesStates(t *testing.T) {
	for _, states := range [][]uint8{nil, {}, {1, 0}, {0, 0}, {1, 1}, {0, 1, 1}, {0, 2, 1}, {1, 2, 0}, {3}, {0, 3}, {0, 1, 2, 3}, {255}, {0, 255}, {4, 5}, {2, 2, 2}} {
		for i := range 2 {
			k := base()
			k.Vars[i].States = states
			checks(t, "a variable's states", k, api.ErrVar)
		}
	}
	for _, states := range [][]uint8{{0}, {1}, {2}, {0, 1}, {0, 2}, {1, 2}, {0, 1, 2}} {
		k := base()
		k.Vars[1].States = states
		checks(t, "a variable's states", k, api.OK)
	}
	long := make([]uint8, 1<<20)
	k := base()
	k.Vars[0].States = long
	checks(t, "a long list", k, api.ErrVar)
}

func TestCheckOfRowsLengths(t *testing.T) {
	for _, h := range hoods {
		for n := range 12 {
			for at := range 3 {
				k := api.Table{States: 2, Hood: h, Rows: manyRows(3, h)}
				k.Rows[at].Around = make([]api.Term, n)
				for i := range k.Rows[at].Around {
					k.Rows[at].Around[i] = st(0)
				}
				want := api.ErrTrans
				if n == sizes[h] {
					want = api.OK
				}
				checks(t, strconv.Itoa(n)+" neighbours", k, want)
			}
		}
	}
}

// setTerm puts a term at a place of a row: the centre, the neighbours, what comes out.
func setTerm(r *api.Trans, place int, term api.Term) {
	switch {
	case place == 0:
		r.Centre = term
	case place <= len(r.Around):
		r.Around[place-1] = term
	default:
		r.Out = term
	}
}

func TestCheckOfTerms(t *testing.T) {
	wrong := []api.Term{
		{Var: -2}, {Var: math.MinInt}, {Var: -1 << 32}, {Var: 2}, {Var: 3}, {Var: 64}, {Var: math.MaxInt}, {Var: 1 << 32}, {State: 1, Var: -2}, {State: 1, Var: 2},
		{State: 3, Var: -1}, {State: 4, Var: -1}, {State: 255, Var: -1},
		{State: 1, Var: 0}, {State: 2, Var: 1}, {State: 3, Var: 0}, {State: 255, Var: 1},
	}
	for _, p := range pairs() {
		for place := range sizes[p.hood] + 2 {
			k := api.Table{States: 3, Hood: p.hood, Symmetry: p.symmetry, Vars: base().Vars, Rows: manyRows(3, p.hood)}
			for _, term := range wrong {
				bad := clone(k)
				setTerm(&bad.Rows[place%3], place, term)
				checks(t, "a term", bad, api.ErrTrans)
			}
			for _, term := range []api.Term{st(0), st(2), va(0), va(1)} {
				good := clone(k)
				setTerm(&good.Rows[place%3], place, term)
				want := api.OK
				if place == sizes[p.hood]+1 && term.Var >= 0 { // it stands nowhere else
					want = api.ErrTrans
				}
				checks(t, "a term", good, want)
				for other := range sizes[p.hood] + 1 {
					out := clone(good)
					setTerm(&out.Rows[place%3], sizes[p.hood]+1, va(1))
					setTerm(&out.Rows[place%3], other, va(1))
					checks(t, "a variable that comes out", out, api.OK)
				}
			}
		}
	}
}

func TestCheckOfVariablesThatComeOut(t *testing.T) {
	k := base()
	k.Rows[0].Out = va(1) // it stands in the other row alone
	checks(t, "of another row", k, api.ErrTrans)
	k = base()
	k.Rows[0].Out = va(0)
	checks(t, "of a neighbour", k, api.OK)
	k.Rows = append(k.Rows, row(st(0), st(0), st(0), st(0), st(0), va(0)))
	checks(t, "the state 0 is no variable", k, api.ErrTrans)
	k.Vars = nil
	k.Rows = []api.Trans{row(st(0), st(0), st(0), st(0), st(0), va(0))}
	checks(t, "no variables", k, api.ErrTrans)
}

// TestCheckTellsTheFirst: any two faults, and all of them.
func TestCheckTellsTheFirst(t *testing.T) {
	faults := []struct {
		e     api.Errno
		spoil func(k *api.Table)
	}{
		{api.ErrStates, func(k *api.Table) { k.States = 1 }},
		{api.ErrHood, func(k *api.Table) { k.Hood = 4 }},
		{api.ErrSymmetry, func(k *api.Table) { k.Symmetry = 11 }},
		{api.ErrMany, func(k *api.Table) {
			for len(k.Vars) < 65 {
				k.Vars = append(k.Vars, api.Var{})
			}
		}},
		{api.ErrMany, func(k *api.Table) {
			for len(k.Rows) < 4097 {
				k.Rows = append(k.Rows, api.Trans{})
			}
		}},
		{api.ErrVar, func(k *api.Table) { k.Vars[1].Name = "var" }},
		{api.ErrVar, func(k *api.Table) { k.Vars[1].States = nil }},
		{api.ErrTrans, func(k *api.Table) { k.Rows[0].Centre = api.Term{Var: -2} }},
		{api.ErrTrans, func(k *api.Table) { k.Rows[0].Around = nil }},
	}
	for i, one := range faults {
		k := base()
		one.spoil(&k)
		checks(t, strconv.Itoa(i), k, one.e)
		for j, two := range faults[i+1:] {
			both := base()
			one.spoil(&both)
			two.spoil(&both)
			checks(t, strconv.Itoa(i)+" and "+strconv.Itoa(i+1+j), both, one.e)
		}
		all := base()
		for _, f := range faults[i:] {
			f.spoil(&all)
		}
		checks(t, strconv.Itoa(i)+" and all behind it", all, one.e)
	}
	k := base()
	k.Hood, k.Symmetry = api.Hex, api.SymRotate4
	checks(t, "a symmetry of other neighbourhoods ahead of the rows", k, api.ErrSymmetry)
}
