package rule

import (
	"iter"
	"slices"

	"vivarium/api"
	"vivarium/hood"
	"vivarium/table"
)

// exchange is the linear part that takes (x, y) to (y, x).
const exchange = 5

// most is how many neighbours a cell has at most.
const most = 8

// across is the table's rule with rows and columns exchanged.
func (t told) across() (api.Rule, api.Errno) {
	to, _, _ := hood.Perm(t.near(), exchange) // it keeps every neighbourhood
	made := t.rule()
	if !t.isSpread() {
		for i, row := range made.Table.Rows {
			made.Table.Rows[i].Around = moved(row.Around, to)
		}
		return made, api.OK
	}
	rows, e := t.spread(to)
	if e != api.OK {
		return api.Rule{}, e
	}
	made.Table.Symmetry, made.Table.Rows = api.SymNone, rows
	return made, api.OK
}

// isSpread tells whether the rows have to be told order by order: the exchanged reflection is no symmetry's, and where what comes out stands among the neighbours alone, it hangs on which order comes first.
func (t told) isSpread() bool {
	return t.table.Symmetry == api.SymReflect || slices.ContainsFunc(t.table.Rows, func(row api.Trans) bool {
		return row.Out.Var != noVar && row.Out != row.Centre
	})
}

// spread are the rows in each of the symmetry's orders, moved to these places.
func (t told) spread(to []int) ([]api.Trans, api.Errno) {
	orders, _ := table.Group(t.table.Symmetry, t.table.Hood) // check has looked at both
	var rows []api.Trans
	for _, row := range t.table.Rows {
		for order := range unlike(row.Around, orders) {
			if len(rows) == api.MaxRows {
				return nil, api.ErrMany
			}
			around := moved(moved(row.Around, order), to)
			rows = append(rows, api.Trans{Centre: row.Centre, Around: around, Out: row.Out})
		}
	}
	return rows, api.OK
}

// unlike goes through the orders that lay the terms otherwise than all earlier ones. It holds short keys against each other, for there may be many thousands of orders: of each place the number of the first term that is the same as the one that comes to lie there.
func unlike(terms []api.Term, orders [][]int) iter.Seq[[]int] {
	firsts := make([]uint8, len(terms))
	for i, term := range terms {
		firsts[i] = uint8(slices.Index(terms, term))
	}
	return func(yield func([]int) bool) {
		met := map[[most]uint8]struct{}{}
		for _, order := range orders {
			var laid [most]uint8
			for i, first := range firsts {
				laid[order[i]] = first
			}
			if _, is := met[laid]; is {
				continue
			}
			met[laid] = struct{}{}
			if !yield(order) {
				return
			}
		}
	}
}
