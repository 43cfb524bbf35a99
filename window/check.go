package window

import (
	"vivarium/api"
	"vivarium/rule"
	"vivarium/whole"
)

// checkTrim tells why there is no strip, or no such band of it.
func checkTrim(r api.Rule, t api.Topo, b api.Band) api.Errno {
	if e := Check(r, t); e != api.OK {
		return e
	}
	if b.W != t.W {
		return api.ErrBand
	}
	if e := checkRows(r, t, b.Rows...); e != api.OK {
		return e
	}
	// Where the first row is not far, the sum fits.
	if len(b.Rows) > 0 && (isFar(b.At) || isFar(last(b))) {
		return api.ErrFar
	}
	return api.OK
}

// checkRows tells what is wrong with rows of a strip; the lengths of all of them count ahead of states.
func checkRows(r api.Rule, t api.Topo, rows ...[]uint8) api.Errno {
	for _, row := range rows {
		if len(row) != t.W {
			return api.ErrBand
		}
	}
	states, _ := rule.States(r)
	for _, row := range rows {
		for _, state := range row {
			if int(state) >= states {
				return api.ErrState
			}
		}
	}
	return api.OK
}

// checkRun tells why a band, trimmed, can't be run.
func checkRun(b api.Band, n int) api.Errno {
	switch {
	case n < 0:
		return api.ErrArg
	case n > api.MaxGen:
		return api.ErrFar
	case len(b.Rows) > 0 && (isFar(b.At-n) || isFar(last(b)+n)):
		return api.ErrFar
	}
	// A band has at most 2 * MaxFar + 1 rows: how many it comes to fits an int, but its cells need not.
	cells, fits := whole.Mul(b.W, len(b.Rows)+2*n)
	// Where the cells are not too many, n is not more than they are: so the work fits.
	if !fits || cells > api.MaxCells || n*cells > api.MaxWork {
		return api.ErrBudget
	}
	return api.OK
}

func isFar(y int) bool { return y < -api.MaxFar || y > api.MaxFar }
