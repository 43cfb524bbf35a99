package table_test

import (
	"math"
	"slices"
	"testing"

	"vivarium/api"
	"vivarium/table"
)

// P10.5: whether a row fits, and what it says.

// fits looks at a row that fits.
func fits(t *testing.T, k api.Table, r int, centre uint8, around []uint8, says uint8) {
	t.Helper()
	if out, is, e := table.Fits(k, r, centre, around); out != says || !is || e != api.OK {
		t.Errorf("Fits(%v, %d, %d, %v) = %d, %v, %d, not %d", k, r, centre, around, out, is, e, says)
	}
}

// fitsNot looks at a row that does not fit.
func fitsNot(t *testing.T, k api.Table, r int, centre uint8, around []uint8) {
	t.Helper()
	if out, is, e := table.Fits(k, r, centre, around); out != 0 || is || e != api.OK {
		t.Errorf("Fits(%v, %d, %d, %v) = %d, %v, %d, not false", k, r, centre, around, out, is, e)
	}
}

// noFits looks at what is refused.
func noFits(t *testing.T, k api.Table, r int, centre uint8, around []uint8, want api.Errno) {
	t.Helper()
	if out, is, e := table.Fits(k, r, centre, around); out != 0 || is || e != want {
		t.Errorf("Fits(%d, %d, %v) = %d, %v, %d, not %d", r, centre, around, out, is, e, want)
	}
}

// asModelFits looks whether a row fits as the model says.
func asModelFits(t *testing.T, k api.Table, r int, centre uint8, around []uint8) bool {
	t.Helper()
	says, is := modelFits(k, k.Rows[r], centre, around)
	if is {
		fits(t, k, r, centre, around, says)
	} else {
		fitsNot(t, k, r, centre, around)
	}
	return is
}

// one is a table of one row, with variables a, b, c, .. of these states.
func one(states int, p pair, r api.Trans, vars ...[]uint8) api.Table {
	k := api.Table{States: states, Hood: p.hood, Symmetry: p.symmetry, Rows: []api.Trans{r}}
	for i, list := range vars {
		k.Vars = append(k.Vars, api.Var{Name: "abcdefgh"[i : i+1], States: list})
	}
	return k
}

// everyStates goes through all lists of n states.
func everyStates(n, states int, see func([]uint8)) {
	list := make([]uint8, n)
	for {
		see(list)
		at := 0
		for at < n && int(list[at]) == states-1 {
			list[at] = 0
			at++
		}
		if at == n {
			return
		}
		list[at]++
	}
}

// TestFitsOfAllStates: rows by chance, of each symmetry with each neighbourhood of few neighbours, asked of all states.
func TestFitsOfAllStates(t *testing.T) {
	d := dice(1)
	for _, p := range pairs() {
		if p.hood != api.Neumann {
			continue
		}
		for range 40 {
			k := d.table(p, 1)
			if k.States > 3 {
				continue
			}
			everyStates(5, k.States, func(list []uint8) { asModelFits(t, k, 0, list[0], list[1:]) })
		}
	}
}

// TestFitsByChance: rows by chance, asked of states for which they are near to fit.
func TestFitsByChance(t *testing.T) {
	d := dice(2)
	for _, p := range pairs() {
		fitted, rounds := 0, 1500
		if p.symmetry == api.SymPermute {
			rounds = map[uint8]int{api.Moore: 12, api.Neumann: 1000, api.Hex: 150}[p.hood]
		}
		for range rounds {
			k := d.table(p, 1)
			centre, around := d.near(k, k.Rows[0])
			if asModelFits(t, k, 0, centre, around) {
				fitted++
			}
		}
		if fitted < rounds/10 || fitted > rounds*9/10 {
			t.Errorf("%v: %d of %d fitted", p, fitted, rounds)
		}
	}
}

// near are states that fit a row in one of its table's orders, but for one now and then.
func (d *dice) near(k api.Table, r api.Trans) (uint8, []uint8) {
	choice := map[int]uint8{}
	for i, v := range k.Vars {
		choice[i] = v.States[d.below(len(v.States))]
	}
	orders := modelGroup(pair{k.Symmetry, k.Hood})
	around := make([]uint8, len(r.Around))
	for i, j := range orders[d.below(len(orders))] {
		around[j] = worth(r.Around[i], choice)
	}
	if d.below(2) == 0 {
		around[d.below(len(around))] = uint8(d.below(k.States))
	}
	centre := worth(r.Centre, choice)
	if d.below(10) == 0 {
		centre = uint8(d.below(k.States))
	}
	return centre, around
}

func TestFitsWithoutVariables(t *testing.T) {
	for _, p := range pairs() {
		n := sizes[p.hood]
		k := api.Table{States: 256, Hood: p.hood, Symmetry: p.symmetry, Rows: []api.Trans{{Centre: st(9), Out: st(255)}}}
		for i := range n {
			k.Rows[0].Around = append(k.Rows[0].Around, st(uint8(100+i)))
		}
		everyOrder(n, nil, func(g []int) {
			if n == 8 && p.symmetry != api.SymPermute && g[0]+g[1]+g[2] > 6 && !symmetries[p.symmetry].takes(g) {
				return // enough of them
			}
			around := make([]uint8, n)
			for i, j := range g {
				around[j] = uint8(100 + i)
			}
			if symmetries[p.symmetry].takes(g) {
				fits(t, k, 0, 9, around, 255)
			} else {
				fitsNot(t, k, 0, 9, around)
			}
		})
	}
}

// TestFitsOfAVariableAtSeveralPlaces: it is one state at all of them.
func TestFitsOfAVariableAtSeveralPlaces(t *testing.T) {
	none := pair{api.SymNone, api.Neumann}
	k := one(4, none, row(va(0), va(0), st(1), va(0), va(1), va(0)), []uint8{0, 2}, []uint8{0, 2, 3})
	everyStates(5, 4, func(list []uint8) {
		c, a := list[0], list[1:]
		if (c == 0 || c == 2) && a[0] == c && a[1] == 1 && a[2] == c && a[3] != 1 {
			fits(t, k, 0, c, a, c)
		} else {
			fitsNot(t, k, 0, c, a)
		}
	})
	turned := one(3, pair{api.SymRotate4, api.Neumann}, row(st(0), va(0), va(0), va(1), va(1), va(1)), []uint8{0, 1, 2}, []uint8{1, 2})
	fits(t, turned, 0, 0, []uint8{0, 0, 1, 1}, 1)
	fits(t, turned, 0, 0, []uint8{1, 0, 0, 1}, 1)
	fits(t, turned, 0, 0, []uint8{2, 1, 1, 2}, 2)
	fitsNot(t, turned, 0, 0, []uint8{0, 1, 0, 1})
	fitsNot(t, turned, 0, 0, []uint8{0, 0, 0, 1})
}

// TestFitsWhereTheFirstOrderSays: a variable that comes out is another state in each order that fits.
func TestFitsWhereTheFirstOrderSays(t *testing.T) {
	all := []uint8{0, 1, 2, 3, 4, 5, 6, 7, 8}
	for _, p := range pairs() {
		n := sizes[p.hood]
		var around []uint8
		for i := range n {
			around = append(around, uint8(8-i))
		}
		for at := range n { // the neighbour's term that comes out; all others are a variable each
			k := one(9, p, api.Trans{Centre: st(0), Out: va(at)}, all, all, all, all, all, all, all, all)
			for i := range n {
				k.Rows[0].Around = append(k.Rows[0].Around, va(i))
			}
			fits(t, k, 0, 0, around, around[at]) // the order that leaves all as they are is the first one
			k.Vars[0].States = around[n-1:]      // then the first term must be the last neighbour, and the first order that has it there says
			orders := modelGroup(p)
			first := slices.IndexFunc(orders, func(g []int) bool { return g[0] == n-1 })
			if first < 0 {
				fitsNot(t, k, 0, 0, around)
			} else {
				fits(t, k, 0, 0, around, around[orders[first][at]])
			}
		}
	}
	k := one(3, pair{api.SymPermute, api.Neumann}, row(st(0), va(0), va(1), st(0), st(0), va(1)), []uint8{1, 2}, []uint8{1, 2})
	fits(t, k, 0, 0, []uint8{0, 0, 1, 2}, 2)
	fits(t, k, 0, 0, []uint8{2, 0, 0, 1}, 1)
	k.Rows[0].Out = va(0)
	fits(t, k, 0, 0, []uint8{0, 0, 1, 2}, 1)
	fits(t, k, 0, 0, []uint8{2, 0, 0, 1}, 2)
	turned := one(3, pair{api.SymRotate4, api.Neumann}, row(st(0), va(0), st(0), va(1), st(0), va(0)), []uint8{1, 2}, []uint8{1, 2})
	fits(t, turned, 0, 0, []uint8{1, 0, 2, 0}, 1)
	fits(t, turned, 0, 0, []uint8{2, 0, 1, 0}, 2)
	fits(t, turned, 0, 0, []uint8{0, 1, 0, 2}, 1)
}

// TestFitsWhereAGreedyChoiceFails: a term that takes the first neighbour that it can takes it from another one, which can have no other.
func TestFitsWhereAGreedyChoiceFails(t *testing.T) {
	p := pair{api.SymPermute, api.Neumann}
	k := one(4, p, row(st(0), va(0), va(1), st(3), st(3), va(0)), []uint8{1, 2}, []uint8{1})
	fits(t, k, 0, 0, []uint8{1, 2, 3, 3}, 2)
	fits(t, k, 0, 0, []uint8{3, 1, 3, 2}, 2)
	fits(t, k, 0, 0, []uint8{1, 1, 3, 3}, 1)
	fitsNot(t, k, 0, 0, []uint8{2, 2, 3, 3})
	fitsNot(t, k, 0, 0, []uint8{1, 3, 3, 3})
	twice := one(4, p, row(st(0), va(0), va(1), va(1), va(0), va(0)), []uint8{0, 1, 2, 3}, []uint8{0, 1})
	fits(t, twice, 0, 0, []uint8{0, 3, 0, 3}, 3)
	fits(t, twice, 0, 0, []uint8{0, 1, 0, 1}, 0)
	fits(t, twice, 0, 0, []uint8{1, 1, 1, 1}, 1)
	fitsNot(t, twice, 0, 0, []uint8{2, 3, 2, 3})
	fitsNot(t, twice, 0, 0, []uint8{0, 0, 0, 1})
	bound := one(4, p, row(va(0), va(1), va(0), va(1), va(2), va(2)), []uint8{0, 1}, []uint8{0, 1, 2}, []uint8{0, 1, 3})
	fits(t, bound, 0, 0, []uint8{0, 0, 0, 3}, 3)
	fits(t, bound, 0, 0, []uint8{1, 0, 1, 1}, 1)
	fits(t, bound, 0, 1, []uint8{0, 0, 1, 3}, 3)
	fitsNot(t, bound, 0, 1, []uint8{0, 0, 0, 3})
	fitsNot(t, bound, 0, 0, []uint8{0, 1, 2, 3})
}

// TestFitsWhereNothingCanBeChosen: many terms that take anything ahead of some that can't all have what they need, in as many rows as may be.
func TestFitsWhereNothingCanBeChosen(t *testing.T) {
	all := []uint8{0, 1, 2, 3, 4, 5, 6, 7, 8}
	k := one(9, pair{api.SymPermute, api.Moore}, row(st(0), va(0), va(1), va(2), va(3), va(4), va(5), va(6), va(7), va(0)), all, all, all, all, all, all, []uint8{8}, []uint8{8})
	for len(k.Rows) < api.MaxRows {
		k.Rows = append(k.Rows, k.Rows[0])
	}
	around := []uint8{1, 2, 3, 4, 5, 6, 7, 8}
	fitsNot(t, k, 77, 0, around)
	if next := mustNext(t, k, 0, around); next != 0 {
		t.Error(next)
	}
	around[0] = 8
	fits(t, k, 77, 0, around, 2)
	if next := mustNext(t, k, 0, around); next != 2 {
		t.Error(next)
	}
}

// TestFitsOfEachRow: a row counts by itself, whatever the others say.
func TestFitsOfEachRow(t *testing.T) {
	k := one(6, pair{api.SymNone, api.Neumann}, row(st(1), st(0), st(0), st(0), st(0), st(0)))
	for out := range uint8(5) {
		k.Rows = append(k.Rows, row(st(0), st(0), st(0), st(0), st(0), st(out+1)))
	}
	zero := []uint8{0, 0, 0, 0}
	fitsNot(t, k, 0, 0, zero)
	for r := 1; r <= 5; r++ {
		fits(t, k, r, 0, zero, uint8(r))
		fitsNot(t, k, r, 1, zero)
	}
	fits(t, k, 0, 1, zero, 0) // what it says is 0, and it fits
}

func TestFitsOfManyVariables(t *testing.T) {
	k := api.Table{States: 256, Hood: api.Moore, Vars: manyVars(64)}
	for i := range k.Vars {
		k.Vars[i].States = []uint8{uint8(i), 255}
	}
	k.Rows = []api.Trans{row(va(63), va(0), va(1), va(62), va(63), va(31), va(32), st(254), va(5), va(63))}
	for s := range uint8(11) {
		if !modelSuits(pair{s, api.Moore}) {
			continue
		}
		k.Symmetry = s
		fits(t, k, 0, 63, []uint8{0, 1, 62, 63, 31, 32, 254, 5}, 63)
		fits(t, k, 0, 255, []uint8{0, 255, 62, 255, 255, 32, 254, 255}, 255)
		fitsNot(t, k, 0, 63, []uint8{0, 1, 62, 255, 31, 32, 254, 5})
		fitsNot(t, k, 0, 62, []uint8{0, 1, 62, 63, 31, 32, 254, 5})
	}
}

func TestFitsOfWhatMayNotBe(t *testing.T) {
	k := base()
	zero := []uint8{0, 0, 0, 0}
	fitsNot(t, k, 0, 0, zero)
	for _, r := range []int{math.MinInt, -2, -1, 2, 3, 4096, 1 << 32, math.MaxInt} {
		noFits(t, k, r, 0, zero, api.ErrArg)
		noFits(t, k, r, 3, zero, api.ErrArg)
		noFits(t, k, r, 0, []uint8{0, 0, 0, 3}, api.ErrArg)
		noFits(t, k, r, 0, nil, api.ErrArg)
	}
	noFits(t, api.Table{States: 2, Hood: api.Neumann}, 0, 0, zero, api.ErrArg)
	for n := range 12 {
		if n != 4 {
			noFits(t, k, 0, 0, make([]uint8, n), api.ErrArg)
			noFits(t, k, 0, 3, make([]uint8, n), api.ErrArg)
			noFits(t, k, 0, 0, slices.Repeat([]uint8{255}, n), api.ErrArg)
		}
	}
	for _, s := range []uint8{3, 4, 255} {
		noFits(t, k, 0, s, zero, api.ErrState)
		for i := range 4 {
			around := make([]uint8, 4)
			around[i] = s
			noFits(t, k, 1, 2, around, api.ErrState)
			noFits(t, k, 1, s, around, api.ErrState)
		}
	}
	noFits(t, api.Table{}, 0, 0, zero, api.ErrStates)
	k.Rows[1].Around = nil
	noFits(t, k, 0, 0, zero, api.ErrTrans) // another row's fault
	noFits(t, k, 7, 9, nil, api.ErrTrans)
	k.Vars[0].Name = "b-2"
	noFits(t, k, 7, 9, nil, api.ErrVar)
	k.Symmetry = 11
	noFits(t, k, 7, 9, nil, api.ErrSymmetry)
	k.Hood = 0
	noFits(t, k, 7, 9, nil, api.ErrHood)
	k.States = 0
	noFits(t, k, 7, 9, nil, api.ErrStates)
}
