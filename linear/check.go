package linear

import (
	"cmp"

	"vivarium/api"
	"vivarium/topo"
)

// mostOnLine is how far an offset of a line may be.
const mostOnLine = 64

// checkOffsets: none may be further than most.
func checkOffsets(offsets []api.Point, most int) api.Errno {
	switch {
	case len(offsets) > api.MaxPoly:
		return api.ErrMany
	case !allWithin(offsets, most):
		return api.ErrFar
	case hasTwice(offsets):
		return api.ErrPoly
	}
	return api.OK
}

func allWithin(places []api.Point, most int) bool {
	for _, p := range places {
		if !isWithin(p.X, most) || !isWithin(p.Y, most) {
			return false
		}
	}
	return true
}

func isWithin(n, most int) bool { return -most <= n && n <= most }

func hasTwice(places []api.Point) bool { return len(setOf(places)) < len(places) }

// checkJump has the errors of the arguments from the left, the budget's last.
func checkJump(t api.Topo, offsets, cells []api.Point, n int) api.Errno {
	if e := checkTorus(t); e != api.OK {
		return e
	}
	return cmp.Or(Check(offsets), checkCells(t, cells), checkGenerations(n), checkBudget(t))
}

func checkTorus(t api.Topo) api.Errno {
	wide, high, e := topo.Endless(t)
	switch {
	case e != api.OK:
		return api.ErrTopo
	case t.Kind != api.Torus:
		return api.ErrKind
	case wide || high:
		return api.ErrEndless
	}
	return api.OK
}

// checkCells: a place that topo finds too far is, of a torus with two ends each way, none of the grid.
func checkCells(t api.Topo, cells []api.Point) api.Errno {
	for _, c := range cells {
		if is, _ := topo.Has(t, c); !is {
			return api.ErrPlace
		}
	}
	if hasTwice(cells) {
		return api.ErrMany
	}
	return api.OK
}

func checkGenerations(n int) api.Errno {
	switch {
	case n < 0:
		return api.ErrArg
	case n > api.MaxGen:
		return api.ErrFar
	}
	return api.OK
}

func checkBudget(t api.Topo) api.Errno {
	if t.W*t.H > api.MaxCells {
		return api.ErrBudget
	}
	return api.OK
}
