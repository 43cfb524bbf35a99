package table

import (
	"slices"

	"vivarium/api"
)

// scene is a table with a centre and its neighbours, of which its rows are asked.
type scene struct {
	table  api.Table
	centre uint8
	around []uint8
	orders [][]int // the symmetry's; of permute none, for they are too many to be tried one by one
}

// sceneOf looks whether the table, which may be, can be asked of these states.
func sceneOf(t api.Table, centre uint8, around []uint8) (scene, api.Errno) {
	size, _ := sizeOf(t.Hood) // Check has looked at it
	if len(around) != size {
		return scene{}, api.ErrArg
	}
	isNone := func(state uint8) bool { return int(state) >= t.States }
	if isNone(centre) || slices.ContainsFunc(around, isNone) {
		return scene{}, api.ErrState
	}
	return scene{table: t, centre: centre, around: around, orders: turns(t.Symmetry, size)}, api.OK
}

// says tells whether a row fits, and what it says in the first order in which it does.
func (s scene) says(row api.Trans) (uint8, bool) {
	if s.table.Symmetry == api.SymPermute {
		first, is := s.firstOrder(row)
		if !is {
			return 0, false
		}
		return s.saysIn(row, first)
	}
	for _, g := range s.orders {
		if out, fits := s.saysIn(row, g); fits {
			return out, true
		}
	}
	return 0, false
}

// saysIn tells whether a row fits in one order, and what it says there.
func (s scene) saysIn(row api.Trans, g []int) (uint8, bool) {
	var b bound
	if !s.meets(&b, row.Centre, s.centre) {
		return 0, false
	}
	for i, term := range row.Around {
		if !s.meets(&b, term, s.around[g[i]]) {
			return 0, false
		}
	}
	if row.Out.Var == noVar {
		return row.Out.State, true
	}
	return b.state(row.Out.Var), true
}

// bound has of each variable one more than the state for which it stands, and 0 while it is free.
type bound [api.MaxVars]uint16

func (b *bound) isFree(v int) bool { return b[v] == 0 }

func (b *bound) free(v int) { b[v] = 0 }

func (b *bound) bind(v int, state uint8) { b[v] = uint16(state) + 1 }

func (b *bound) state(v int) uint8 { return uint8(b[v] - 1) }

// meets tells whether a term is a state; a variable that was free and can be it is bound to it.
func (s scene) meets(b *bound, term api.Term, state uint8) bool {
	switch {
	case term.Var == noVar:
		return term.State == state
	case !b.isFree(term.Var):
		return b.state(term.Var) == state
	}
	_, may := slices.BinarySearch(s.table.Vars[term.Var].States, state)
	if may {
		b.bind(term.Var, state)
	}
	return may
}
