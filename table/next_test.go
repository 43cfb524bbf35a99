package table_test

import (
	"testing"

	"vivarium/api"
	"vivarium/table"
)

// P10.6: what becomes of a cell.

func next(t *testing.T, k api.Table, centre uint8, around []uint8, want uint8) {
	t.Helper()
	if got, e := table.Next(k, centre, around); got != want || e != api.OK {
		t.Errorf("Next(%v, %d, %v) = %d, %d, not %d", k, centre, around, got, e, want)
	}
}

func noNext(t *testing.T, k api.Table, centre uint8, around []uint8, want api.Errno) {
	t.Helper()
	if got, e := table.Next(k, centre, around); got != 0 || e != want {
		t.Errorf("Next(%d, %v) = %d, %d, not %d", centre, around, got, e, want)
	}
}

func TestNextByChance(t *testing.T) {
	d := dice(3)
	for _, p := range pairs() {
		rounds := 400
		if p.symmetry == api.SymPermute {
			rounds = map[uint8]int{api.Moore: 5, api.Neumann: 300, api.Hex: 40}[p.hood]
		}
		for range rounds {
			k := d.table(p, 1+d.below(4))
			centre, around := d.near(k, k.Rows[d.below(len(k.Rows))])
			next(t, k, centre, around, modelNext(k, centre, around))
		}
	}
}

// TestNextOfTheFirstRowThatFits: not of the one that fits in an earlier order.
func TestNextOfTheFirstRowThatFits(t *testing.T) {
	k := one(6, pair{api.SymRotate4, api.Neumann}, row(st(0), st(1), st(0), st(0), st(0), st(2)), []uint8{0, 1})
	k.Rows = append(k.Rows, row(st(0), st(0), st(0), st(1), st(0), st(3)), row(st(0), va(0), va(0), va(0), va(0), st(4)), row(va(0), st(0), st(0), st(0), st(0), st(5)))
	for i := range 4 {
		around := make([]uint8, 4)
		around[i] = 1
		next(t, k, 0, around, 2)
		next(t, k, 1, around, 1)
	}
	next(t, k, 0, []uint8{0, 0, 0, 0}, 4)
	next(t, k, 0, []uint8{1, 1, 1, 1}, 4)
	next(t, k, 1, []uint8{0, 0, 0, 0}, 5)
	next(t, k, 0, []uint8{1, 1, 0, 0}, 0)
	k.Rows[0], k.Rows[1] = k.Rows[1], k.Rows[0]
	next(t, k, 0, []uint8{1, 0, 0, 0}, 3)
	k.Rows[2], k.Rows[0] = k.Rows[0], k.Rows[2]
	next(t, k, 0, []uint8{0, 0, 0, 0}, 4)
	next(t, k, 0, []uint8{0, 0, 1, 0}, 2)
}

func TestNextWhereNoRowFits(t *testing.T) {
	for _, p := range pairs() {
		k := api.Table{States: 256, Hood: p.hood, Symmetry: p.symmetry}
		around := make([]uint8, sizes[p.hood])
		around[1] = 255
		for c := range 256 {
			next(t, k, uint8(c), around, uint8(c))
		}
		k.Rows = manyRows(5, p.hood)
		for c := range 256 {
			next(t, k, uint8(c), around, uint8(c))
		}
	}
}

// TestNextOfTheLastRow: as many rows as may be, of which the last one fits.
func TestNextOfTheLastRow(t *testing.T) {
	for _, p := range pairs() {
		k := api.Table{States: 3, Hood: p.hood, Symmetry: p.symmetry, Rows: manyRows(api.MaxRows, p.hood)}
		last := &k.Rows[api.MaxRows-1]
		last.Around[0], last.Out = st(0), st(2)
		around := make([]uint8, sizes[p.hood])
		for i := range around {
			around[i] = 1
		}
		next(t, k, 0, around, 1)
		around[0] = 0
		next(t, k, 0, around, 2)
		next(t, k, 1, around, 1)
	}
}

func TestNextOfWhatMayNotBe(t *testing.T) {
	k := base()
	zero := []uint8{0, 0, 0, 0}
	for n := range 12 {
		if n != 4 {
			noNext(t, k, 0, make([]uint8, n), api.ErrArg)
			noNext(t, k, 3, make([]uint8, n), api.ErrArg)
		}
	}
	noNext(t, k, 0, nil, api.ErrArg)
	noNext(t, k, 0, []uint8{0, 0, 255}, api.ErrArg)
	for _, s := range []uint8{3, 4, 255} {
		noNext(t, k, s, zero, api.ErrState)
		for i := range 4 {
			around := make([]uint8, 4)
			around[i] = s
			noNext(t, k, 0, around, api.ErrState)
			noNext(t, api.Table{States: 3, Hood: api.Neumann}, 2, around, api.ErrState)
		}
	}
	noNext(t, api.Table{}, 0, zero, api.ErrStates)
	k.Rows[1].Out = api.Term{Var: 9}
	noNext(t, k, 0, zero, api.ErrTrans) // a row's that would not be asked
	noNext(t, k, 9, nil, api.ErrTrans)
	k.Vars[0].States = nil
	noNext(t, k, 9, nil, api.ErrVar)
	k.Vars = make([]api.Var, 65)
	noNext(t, k, 9, nil, api.ErrMany)
	k.Symmetry = api.SymRotate2
	noNext(t, k, 9, nil, api.ErrSymmetry)
	k.Hood = 4
	noNext(t, k, 9, nil, api.ErrHood)
	k.States = 257
	noNext(t, k, 9, nil, api.ErrStates)
}
