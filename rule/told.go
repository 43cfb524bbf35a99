package rule

import (
	"slices"

	"vivarium/api"
	"vivarium/scan"
	"vivarium/table"
)

// noVar is the Var of a term that is a state.
const noVar = -1

// told is a rule of KindTable.
type told struct {
	name  string
	table api.Table
}

// isNone tells whether nothing is in a table.
func isNone(t api.Table) bool {
	return t.States == 0 && t.Hood == 0 && t.Symmetry == 0 && len(t.Vars) == 0 && len(t.Rows) == 0
}

// isName tells whether a text is a name, as a whole.
func isName(s string) bool {
	c := scan.New(s)
	_, e := c.Name()
	return e == api.OK && c.Done()
}

func (t told) check() api.Errno {
	if !isName(t.name) {
		return api.ErrName
	}
	return table.Check(t.table)
}

func (t told) text() string { return t.name }

func (t told) states() int { return t.table.States }

func (t told) near() uint8 { return t.table.Hood }

func (t told) next(centre uint8, around []uint8) uint8 {
	state, _ := table.Next(t.table, centre, around)
	return state
}

// at leaves out the rows that can't fit the centre: a table is looked at as a whole each time it is asked.
func (t told) at(centre uint8) law {
	var rows []api.Trans
	for _, row := range t.table.Rows {
		if t.canBe(row.Centre, centre) {
			rows = append(rows, row)
		}
	}
	t.table.Rows = rows
	return t
}

// canBe tells whether a term can stand for a state.
func (t told) canBe(term api.Term, state uint8) bool {
	if term.Var == noVar {
		return term.State == state
	}
	return slices.Contains(t.table.Vars[term.Var].States, state)
}

func (t told) rule() api.Rule {
	made := t.table
	made.Vars = slices.Clone(made.Vars)
	for i, v := range made.Vars {
		made.Vars[i].States = slices.Clone(v.States)
	}
	made.Rows = slices.Clone(made.Rows)
	for i, row := range made.Rows {
		made.Rows[i].Around = slices.Clone(row.Around)
	}
	return api.Rule{Kind: api.KindTable, Name: t.name, Table: made}
}

// keeps tells whether the table says the same of neighbours that are moved to these places.
func (t told) keeps(to []int) (bool, api.Errno) {
	if !canGoThrough(t.states(), len(to)+1) {
		return false, api.ErrBudget
	}
	for centre := range t.states() {
		if !t.keepsAt(uint8(centre), to) {
			return false, api.OK
		}
	}
	return true, api.OK
}

// keepsAt is keeps, of one centre. What is said of all neighbours is asked ahead, so that each is asked of once.
func (t told) keepsAt(centre uint8, to []int) bool {
	l := t.at(centre)
	var said []uint8
	for around := range rowsOf(t.states(), len(to)) {
		said = append(said, l.next(centre, around))
	}
	n := 0
	for around := range rowsOf(t.states(), len(to)) {
		if said[n] != said[number(moved(around, to), t.states())] {
			return false
		}
		n++
	}
	return true
}
