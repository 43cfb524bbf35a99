package tiles

import (
	"vivarium/api"
	"vivarium/field"
	"vivarium/rule"
	"vivarium/topo"
)

// check tells why there can't be a board.
func check(r api.Rule, t api.Topo, f *field.Field, workers int) api.Errno {
	if f.W() == 0 { // just where no call of field made it
		return api.ErrNil
	}
	states, e := rule.States(r)
	switch {
	case e != api.OK:
		return api.ErrRule
	case topo.Check(t) != api.OK:
		return api.ErrTopo
	case workers < 1 || workers > api.MaxWorkers:
		return api.ErrWorkers
	case t.W == 0 || t.H == 0:
		return api.ErrEndless
	case t.W != f.W() || t.H != f.H():
		return api.ErrUnlike
	case states != f.States():
		return api.ErrState
	}
	return api.OK
}

// checkStep tells why a board can't go n generations on.
func (b *Board) checkStep(n int) api.Errno {
	switch {
	case b.lacks():
		return api.ErrNil
	case n < 0:
		return api.ErrArg
	case n > api.MaxGen-b.gen: // their sum may not fit an int
		return api.ErrFar
	case n > api.MaxWork/(b.grid.W*b.grid.H):
		return api.ErrBudget
	}
	return api.OK
}
