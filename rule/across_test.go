package rule_test

import (
	"slices"
	"testing"

	"vivarium/api"
	"vivarium/rule"
	"vivarium/table"
)

// P12.8: Across.

// modelAcross is the rule exchanged; nothing and ErrMany, if it has too many rows. (Rows are held against each other one by one: of few orders.)
func modelAcross(r api.Rule) (api.Rule, api.Errno) {
	made := clone(r)
	if r.Kind != api.KindTable {
		return made, api.OK
	}
	plain := r.Table.Symmetry != api.SymReflect
	for _, row := range r.Table.Rows {
		plain = plain && (row.Out.Var == -1 || row.Out.Var == row.Centre.Var)
	}
	orders := [][]int{{0, 1, 2, 3, 4, 5, 6, 7}}
	if !plain {
		orders, _ = table.Group(r.Table.Symmetry, r.Table.Hood)
		made.Table.Symmetry = api.SymNone
	}
	made.Table.Rows = nil
	for _, row := range r.Table.Rows {
		var laid [][]api.Term
		for _, g := range orders {
			around := make([]api.Term, len(row.Around))
			for i, term := range row.Around {
				around[g[i]] = term
			}
			around = exchanged(r.Table.Hood, around)
			if slices.ContainsFunc(laid, func(l []api.Term) bool { return slices.Equal(l, around) }) {
				continue
			}
			laid = append(laid, around)
			made.Table.Rows = append(made.Table.Rows, api.Trans{Centre: row.Centre, Around: around, Out: row.Out})
		}
	}
	if len(made.Table.Rows) > 1<<12 {
		return api.Rule{}, api.ErrMany
	}
	return made, api.OK
}

func TestAcrossCounts(t *testing.T) {
	d := dice(25)
	for range 100 {
		for _, h := range hoods {
			r := d.counts(h)
			if x := mustAcross(t, r); !same(x, r) {
				t.Errorf("Across(%v): %v", r, x)
			}
		}
	}
	for _, r := range []api.Rule{born(t, "B3/S23"), fading(api.Hex, 9)} {
		want := r
		r.Table.Vars, r.Table.Rows = []api.Var{}, []api.Trans{}
		if x := mustAcross(t, r); !same(x, want) {
			t.Errorf("Across(%v): %v", r, x)
		}
	}
}

// isAcross looks whether the exchanged rule has this symmetry and these rows, and all else as it was.
func isAcross(t *testing.T, r api.Rule, symmetry uint8, rows ...api.Trans) {
	t.Helper()
	want := clone(r)
	want.Table.Symmetry, want.Table.Rows = symmetry, rows
	if x := mustAcross(t, r); !same(x, want) {
		t.Errorf("Across(%v): %v, not %v", r, x, want)
	}
}

// TestAcrossByHand: north and west change places, east and south; of Moore and Hex likewise.
func TestAcrossByHand(t *testing.T) {
	vars := []api.Var{anyState("a", 9), {Name: "b", States: []uint8{1, 2}}}
	four := api.Table{States: 9, Hood: api.Neumann, Vars: vars, Rows: []api.Trans{lineOf(0, 1, 2, 3, 4, 5)}}
	isAcross(t, tabled(four), api.SymNone, lineOf(0, 4, 3, 2, 1, 5))
	eight := api.Table{States: 9, Hood: api.Moore, Vars: vars, Rows: []api.Trans{lineOf(0, 1, 2, 3, 4, 5, 6, 7, 8, 5)}}
	isAcross(t, tabled(eight), api.SymNone, lineOf(0, 7, 6, 5, 4, 3, 2, 1, 8, 5))
	six := api.Table{States: 9, Hood: api.Hex, Vars: vars, Rows: []api.Trans{lineOf(0, 1, 2, 3, 4, 5, 6, 5)}}
	isAcross(t, tabled(six), api.SymNone, lineOf(0, 5, 4, 3, 2, 1, 6, 5))
	for _, s := range []uint8{api.SymRotate4, api.SymRotate8, api.SymRotate4R, api.SymRotate8R, api.SymPermute} {
		eight.Symmetry = s
		isAcross(t, tabled(eight), s, lineOf(0, 7, 6, 5, 4, 3, 2, 1, 8, 5))
	}
	for _, s := range []uint8{api.SymPermute, api.SymRotate2, api.SymRotate3, api.SymRotate6, api.SymRotate6R} {
		six.Symmetry = s
		isAcross(t, tabled(six), s, lineOf(0, 5, 4, 3, 2, 1, 6, 5))
	}
	four.Symmetry = api.SymReflect
	isAcross(t, tabled(four), api.SymNone, lineOf(0, 4, 3, 2, 1, 5), lineOf(0, 2, 3, 4, 1, 5)) // 1 2 3 4, and 1 4 3 2
	four.Rows = []api.Trans{line(va(0), st(1), va(1), st(3), st(4), va(0))}                    // what comes out stands in the centre
	for _, s := range []uint8{api.SymNone, api.SymRotate4, api.SymRotate4R, api.SymPermute} {
		four.Symmetry = s
		isAcross(t, tabled(four), s, line(va(0), st(4), st(3), va(1), st(1), va(0)))
	}
	four.Rows = []api.Trans{line(va(0), st(1), va(0), st(3), st(4), va(0))} // in the centre and elsewhere
	isAcross(t, tabled(four), api.SymPermute, line(va(0), st(4), st(3), va(0), st(1), va(0)))
}

// TestAcrossOutAround: what comes out stands among the neighbours alone, so the rows are told order by order, all of them, also those whose Out is a state.
func TestAcrossOutAround(t *testing.T) {
	vars := []api.Var{anyState("a", 5), {Name: "b", States: []uint8{1, 2}}}
	r := tabled(api.Table{States: 5, Hood: api.Neumann, Symmetry: api.SymRotate4, Vars: vars, Rows: []api.Trans{
		line(st(0), va(0), st(1), st(2), st(3), va(0)),
		lineOf(0, 1, 2, 1, 2, 4), // turned by a half it is the same
		lineOf(3, 1, 1, 1, 1, 4), // turned by any number it is the same
		lineOf(3, 1, 1, 1, 1, 4), // the same as another row: it stays
	}})
	isAcross(t, r, api.SymNone,
		line(st(0), st(3), st(2), st(1), va(0), va(0)),
		line(st(0), st(2), st(1), va(0), st(3), va(0)), // a 1 2 3 at the places 1 2 3 0 is 3 a 1 2; exchanged 2 1 a 3
		line(st(0), st(1), va(0), st(3), st(2), va(0)),
		line(st(0), va(0), st(3), st(2), st(1), va(0)),
		lineOf(0, 2, 1, 2, 1, 4), lineOf(0, 1, 2, 1, 2, 4),
		lineOf(3, 1, 1, 1, 1, 4),
		lineOf(3, 1, 1, 1, 1, 4),
	)
	// one row with a variable that comes out of the neighbours is enough, wherever it stands
	r.Table.Rows = []api.Trans{lineOf(0, 1, 1, 1, 2, 3), line(va(1), va(1), va(0), va(0), va(0), va(0))}
	isAcross(t, r, api.SymNone,
		lineOf(0, 2, 1, 1, 1, 3), lineOf(0, 1, 1, 1, 2, 3), lineOf(0, 1, 1, 2, 1, 3), lineOf(0, 1, 2, 1, 1, 3),
		line(va(1), va(0), va(0), va(0), va(1), va(0)), line(va(1), va(0), va(0), va(1), va(0), va(0)), line(va(1), va(0), va(1), va(0), va(0), va(0)), line(va(1), va(1), va(0), va(0), va(0), va(0)))
	r.Table.Symmetry, r.Table.Rows = api.SymNone, r.Table.Rows[1:]
	isAcross(t, r, api.SymNone, line(va(1), va(0), va(0), va(0), va(1), va(0)))
}

func TestAcrossNoRows(t *testing.T) {
	for _, p := range pairs {
		want := p.symmetry
		if want == api.SymReflect {
			want = api.SymNone
		}
		isAcross(t, tabled(api.Table{States: 3, Hood: p.hood, Symmetry: p.symmetry, Vars: []api.Var{anyState("a", 3)}}), want)
	}
}

// TestAcrossModel holds tables of each symmetry and neighbourhood, with each kind of Out, against the model, row by row.
func TestAcrossModel(t *testing.T) {
	d := dice(27)
	for _, p := range pairs {
		for n := range 40 {
			if p.symmetry == api.SymPermute && p.hood == api.Moore && n >= 4 {
				break // the model is slow
			}
			r := d.table(p, 2+d.below(3), d.below(6), n%4)
			want, e := modelAcross(r)
			if x, f := rule.Across(r); !same(x, want) || f != e {
				t.Fatalf("Across(%v): %v, %d, not %v, %d", r, x, f, want, e)
			}
		}
	}
}

// TestAcrossSays: what the exchanged rule says of a centre and neighbours that are exchanged is what the rule says of them.
func TestAcrossSays(t *testing.T) {
	d := dice(29)
	spread := 0
	for _, p := range pairs {
		for n := range 12 {
			states := 2 + d.below(3)
			r := d.table(p, states, 1+d.below(4), n%4)
			x, e := rule.Across(r)
			if e == api.ErrMany {
				continue
			}
			if f := rule.Check(x); e != api.OK || f != api.OK {
				t.Fatalf("Across(%v): %d, Check %d", r, e, f)
			}
			spread += btoi(x.Table.Symmetry != r.Table.Symmetry)
			for range 40 {
				centre, around := uint8(d.below(states)), d.states(sizeOf(r), states)
				if got, want := mustNext(t, x, centre, exchanged(p.hood, around)), mustNext(t, r, centre, around); got != want {
					t.Fatalf("Across(%v), %v, says %d of %d and %v, exchanged, not %d", r, brief(x), got, centre, around, want)
				}
			}
		}
	}
	if spread < 60 {
		t.Errorf("only %d were told order by order", spread)
	}
}

// TestAcrossSaysAll is the same, of all centres and neighbours of small tables.
func TestAcrossSaysAll(t *testing.T) {
	d := dice(31)
	for _, p := range pairs {
		if p.hood != api.Neumann {
			continue
		}
		for n := range 40 {
			r := d.table(p, 3, 1+d.below(5), n%4)
			x := mustAcross(t, r)
			for in := range everyRow(3, 5) {
				if got, want := mustNext(t, x, in[0], exchanged(p.hood, in[1:])), mustNext(t, r, in[0], in[1:]); got != want {
					t.Fatalf("Across(%v), %v, says %d of %v, exchanged, not %d", r, x, got, in, want)
				}
			}
		}
	}
}

// TestAcrossMaxRows looks at as many rows as there may be, and at one more.
func TestAcrossMaxRows(t *testing.T) {
	const half = api.MaxRows / 2
	once, twice := lineOf(0, 0, 1, 0, 1, 1), lineOf(0, 0, 1, 0, 2, 1) // by reflection the same, and not
	vars := []api.Var{anyState("a", 9), anyState("b", 9)}
	for _, x := range []struct {
		what     string
		symmetry uint8
		rows     []api.Trans
		want     int // how many; 0: too many
	}{
		{"all once", api.SymReflect, slices.Repeat([]api.Trans{once}, api.MaxRows), api.MaxRows},
		{"half twice", api.SymReflect, slices.Repeat([]api.Trans{twice}, half), api.MaxRows},
		{"half twice and one once", api.SymReflect, append(slices.Repeat([]api.Trans{twice}, half), once), 0},
		{"one once and half twice", api.SymReflect, append([]api.Trans{once}, slices.Repeat([]api.Trans{twice}, half)...), 0},
		{"two once and half less one twice", api.SymReflect, append([]api.Trans{once, once}, slices.Repeat([]api.Trans{twice}, half-1)...), api.MaxRows},
		{"all twice", api.SymReflect, slices.Repeat([]api.Trans{twice}, api.MaxRows), 0},
		{"all, as they are", api.SymPermute, slices.Repeat([]api.Trans{twice}, api.MaxRows), api.MaxRows},
		{"all, what comes out in the neighbours, one order", api.SymNone, slices.Repeat([]api.Trans{line(st(0), va(0), va(1), va(0), st(2), va(1))}, api.MaxRows), api.MaxRows},
		{"a quarter, four orders", api.SymRotate4, slices.Repeat([]api.Trans{line(st(0), va(0), st(1), st(0), st(2), va(0))}, api.MaxRows/4), api.MaxRows},
		{"a quarter and one, four orders", api.SymRotate4, slices.Repeat([]api.Trans{line(st(0), va(0), st(1), st(0), st(2), va(0))}, api.MaxRows/4+1), 0},
		{"170 of 24 orders and 16 of one", api.SymPermute, append(slices.Repeat([]api.Trans{line(st(0), va(0), st(1), st(0), st(2), va(0))}, 170), slices.Repeat([]api.Trans{lineOf(0, 1, 1, 1, 1, 2)}, 16)...), api.MaxRows},
		{"170 of 24 orders and 17 of one", api.SymPermute, append(slices.Repeat([]api.Trans{line(st(0), va(0), st(1), st(0), st(2), va(0))}, 170), slices.Repeat([]api.Trans{lineOf(0, 1, 1, 1, 1, 2)}, 17)...), 0},
	} {
		r := tabled(api.Table{States: 9, Hood: api.Neumann, Symmetry: x.symmetry, Vars: vars, Rows: x.rows})
		made, e := rule.Across(r)
		if x.want == 0 {
			if !same(made, api.Rule{}) || e != api.ErrMany {
				t.Errorf("%s: %d rows, %d", x.what, len(made.Table.Rows), e)
			}
			continue
		}
		if len(made.Table.Rows) != x.want || e != api.OK || rule.Check(made) != api.OK {
			t.Errorf("%s: %d rows, %d", x.what, len(made.Table.Rows), e)
		}
	}
}

// TestAcrossAllOrders: eight unlike neighbours have 40320 orders, too many; six have 720; with seven alike they are eight.
func TestAcrossAllOrders(t *testing.T) {
	out := func(near uint8, states ...uint8) api.Rule {
		row := lineOf(append([]uint8{0}, append(states, 0)...)...)
		row.Around[0], row.Out = va(0), va(0)
		return tabled(api.Table{States: 9, Hood: near, Symmetry: api.SymPermute, Vars: []api.Var{anyState("a", 9)}, Rows: []api.Trans{row}})
	}
	if x, e := rule.Across(out(api.Moore, 0, 1, 2, 3, 4, 5, 6, 7)); !same(x, api.Rule{}) || e != api.ErrMany {
		t.Errorf("%d rows, %d", len(x.Table.Rows), e)
	}
	for n, r := range map[int]api.Rule{
		720: out(api.Hex, 0, 1, 2, 3, 4, 5), 8: out(api.Moore, 0, 1, 1, 1, 1, 1, 1, 1), 56: out(api.Moore, 0, 1, 1, 1, 1, 1, 1, 2), 336: out(api.Moore, 0, 1, 1, 1, 1, 1, 2, 3), 1680: out(api.Moore, 0, 1, 1, 1, 1, 2, 3, 4),
	} {
		x, e := rule.Across(r)
		if len(x.Table.Rows) != n || e != api.OK {
			t.Errorf("%d rows, %d, not %d", len(x.Table.Rows), e, n)
		}
		slices.SortFunc(x.Table.Rows, func(a, b api.Trans) int {
			return slices.CompareFunc(a.Around, b.Around, func(s, u api.Term) int { return 100*(s.Var-u.Var) + int(s.State) - int(u.State) })
		})
		for i := range x.Table.Rows[1:] {
			if slices.Equal(x.Table.Rows[i].Around, x.Table.Rows[i+1].Around) {
				t.Fatalf("%v stands twice", x.Table.Rows[i])
			}
		}
	}
}

// TestAcrossTwice: exchanged twice a rule says what it said; where the rows stay, it is the rule again.
func TestAcrossTwice(t *testing.T) {
	d := dice(33)
	for _, p := range pairs {
		for range 20 {
			r := d.table(p, 3, 4, outCentre)
			if twice := mustAcross(t, mustAcross(t, r)); p.symmetry != api.SymReflect && !same(twice, r) {
				t.Fatalf("%v, not %v", twice, r)
			} else {
				for range 10 {
					centre, around := uint8(d.below(3)), d.states(sizeOf(r), 3)
					if mustNext(t, twice, centre, around) != mustNext(t, r, centre, around) {
						t.Fatalf("%v says otherwise than %v", twice, r)
					}
				}
			}
		}
	}
}
