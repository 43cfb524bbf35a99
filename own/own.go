// Package own copies what a layer was handed and keeps: the one who handed it in may write it over.
package own

import (
	"slices"

	"vivarium/api"
)

// Rule is the same rule; no list of it is shared.
func Rule(r api.Rule) api.Rule {
	r.Table.Vars = slices.Clone(r.Table.Vars)
	for i, v := range r.Table.Vars {
		r.Table.Vars[i].States = slices.Clone(v.States)
	}
	r.Table.Rows = slices.Clone(r.Table.Rows)
	for i, row := range r.Table.Rows {
		r.Table.Rows[i].Around = slices.Clone(row.Around)
	}
	return r
}
