package table

import (
	"strconv"
	"strings"

	"vivarium/api"
)

// Print writes it in its one form.
func Print(t api.Table) (string, api.Errno) {
	if e := Check(t); e != api.OK {
		return "", e
	}
	w := writer{table: t}
	w.head(statesHead, strconv.Itoa(t.States))
	w.head(hoodHead, hoodWords[t.Hood])
	w.head(symmetryHead, symmetries[t.Symmetry].word)
	for _, v := range t.Vars {
		w.variable(v)
	}
	for _, row := range t.Rows {
		w.row(row)
	}
	if w.text.Len() > api.MaxText {
		return "", api.ErrText
	}
	return w.text.String(), api.OK
}

// writer has what was written so far.
type writer struct {
	table api.Table
	text  strings.Builder
}

// line writes pieces, and the line's end behind them.
func (w *writer) line(pieces ...string) {
	for _, p := range pieces {
		w.text.WriteString(p)
	}
	w.text.WriteByte('\n')
}

func (w *writer) head(number int, worth string) {
	w.line(headWords[number], ":", worth)
}

func (w *writer) variable(v api.Var) {
	var items []string
	for _, state := range v.States {
		items = append(items, strconv.Itoa(int(state)))
	}
	w.line(varWord, " ", v.Name, "={", strings.Join(items, ","), "}")
}

func (w *writer) row(row api.Trans) {
	items := []string{w.term(row.Centre)}
	for _, term := range row.Around {
		items = append(items, w.term(term))
	}
	w.line(strings.Join(items, ","), ",", w.term(row.Out))
}

// term is a state's number, or a variable's name.
func (w *writer) term(term api.Term) string {
	if term.Var == noVar {
		return strconv.Itoa(int(term.State))
	}
	return w.table.Vars[term.Var].Name
}
