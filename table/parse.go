package table

import (
	"strings"

	"vivarium/api"
	"vivarium/scan"
)

// varWord begins the line of a variable.
const varWord = "var"

// The lines that a table begins with, in their order.
const (
	statesHead = iota
	hoodHead
	symmetryHead
	allHeads
)

// headWords has the words with which they begin.
var headWords = [allHeads]string{"n_states", "neighborhood", "symmetries"}

// hoodWords has the neighbourhoods' words by their numbers.
var hoodWords = [...]string{api.Moore: "Moore", api.Neumann: "vonNeumann", api.Hex: "hexagonal"}

// Parse reads a table; its error is nil, or wraps an *api.Fault.
func Parse(text string) (t api.Table, err error) {
	defer func() {
		if thrown := recover(); thrown != nil {
			t, err = api.Table{}, caught(thrown)
		}
	}()
	return read(text), nil
}

// read is the table of a text. Like all that reads a part of it, it gives up at the first fault.
func read(text string) api.Table {
	if len(text) > api.MaxText {
		giveUp(api.ErrText, 0)
	}
	var r reader
	for at, raw := range scan.Lines(text) {
		if l := lineOf(at, raw); !l.isPassed() {
			r.read(l)
		}
	}
	if r.heads < allHeads {
		giveUp(api.ErrLine, len(text))
	}
	return r.table
}

// reader has what was read so far.
type reader struct {
	table api.Table
	heads int
}

func (r *reader) read(l line) {
	switch {
	case r.heads < allHeads:
		r.readHead(l)
	case l.word() == varWord:
		r.readVar(l)
	default:
		r.readRow(l)
	}
}

// readHead reads the one of the first lines that must stand here.
func (r *reader) readHead(l line) {
	if name, _ := l.Name(); name != headWords[r.heads] {
		giveUp(api.ErrLine, l.first)
	}
	l.must(':')
	l.Blanks()
	at := l.here()
	if e := r.takeHead(l); e != api.OK {
		giveUp(e, at)
	}
	l.mustEnd()
	r.heads++
}

// takeHead goes over what stands behind the colon.
func (r *reader) takeHead(l line) api.Errno {
	switch r.heads {
	case statesHead:
		return r.takeStates(l)
	case hoodHead:
		return r.takeHood(l)
	}
	return r.takeSymmetry(l)
}

func (r *reader) takeStates(l line) api.Errno {
	n, e := l.Number()
	if e != api.OK || !mayHave(n) {
		return api.ErrStates
	}
	r.table.States = n
	return api.OK
}

func (r *reader) takeHood(l line) api.Errno {
	name, e := l.Name()
	if e != api.OK {
		return api.ErrNear
	}
	for near, word := range hoodWords {
		if word == name {
			r.table.Hood = uint8(near)
			return api.OK
		}
	}
	return api.ErrNear
}

func (r *reader) takeSymmetry(l line) api.Errno {
	name, e := l.Name()
	if e != api.OK {
		return api.ErrSymmetry
	}
	for i, s := range symmetries {
		if number := uint8(i); s.word == name && isFor(number, r.table.Hood) {
			r.table.Symmetry = number
			return api.OK
		}
	}
	return api.ErrSymmetry
}

// readVar reads the line of a variable.
func (r *reader) readVar(l line) {
	if len(r.table.Vars) == api.MaxVars {
		giveUp(api.ErrMany, l.first)
	}
	l.Name() // the word var
	name := r.takeNewName(l)
	l.must('=')
	l.must('{')
	states := r.takeItems(l)
	l.mustEnd()
	r.table.Vars = append(r.table.Vars, api.Var{Name: name, States: states})
}

// takeNewName goes over the name of a variable that is to be. It is copied, so that a table does not hold the text in memory.
func (r *reader) takeNewName(l line) string {
	l.Blanks()
	at := l.here()
	name, e := l.Name()
	if e == api.ErrTag {
		giveUp(api.ErrLine, at)
	}
	_, taken := find(r.table.Vars, name)
	if e != api.OK || taken || name == varWord {
		giveUp(api.ErrVar, at)
	}
	return strings.Clone(name)
}

// takeItems goes over the items of a variable and the bracket behind them, and answers their states.
func (r *reader) takeItems(l line) []uint8 {
	var has [api.MaxStates]bool
	for {
		l.Blanks()
		for _, state := range r.statesOf(r.takeTerm(l)) {
			has[state] = true
		}
		if l.takes('}') {
			return rising(has)
		}
		l.must(',')
	}
}

// statesOf are the states for which a term can stand.
func (r *reader) statesOf(term api.Term) []uint8 {
	if term.Var == noVar {
		return []uint8{term.State}
	}
	return r.table.Vars[term.Var].States
}

// rising are the states that are marked.
func rising(has [api.MaxStates]bool) []uint8 {
	var states []uint8
	for state, is := range has {
		if is {
			states = append(states, uint8(state))
		}
	}
	return states
}

// takeTerm goes over a term.
func (r *reader) takeTerm(l line) api.Term {
	at := l.here()
	n, e := l.Number()
	if e == api.ErrNumber {
		return r.takeNamed(l)
	}
	if e != api.OK || n >= r.table.States {
		giveUp(api.ErrState, at)
	}
	return api.Term{State: uint8(n), Var: noVar}
}

// takeNamed goes over a variable's name. One that is too long is a name too, but no variable's.
func (r *reader) takeNamed(l line) api.Term {
	at := l.here()
	name, e := l.Name()
	if e == api.ErrTag {
		giveUp(api.ErrLine, at)
	}
	v, is := find(r.table.Vars, name)
	if !is {
		giveUp(api.ErrVar, at)
	}
	return api.Term{Var: v}
}

// readRow reads a line of terms.
func (r *reader) readRow(l line) {
	if len(r.table.Rows) == api.MaxRows {
		giveUp(api.ErrMany, l.first)
	}
	take := r.takeTerms
	if !strings.Contains(l.text, ",") {
		take = r.takeBytes
	}
	terms, last := take(l)
	size, _ := sizeOf(r.table.Hood) // it was found by its word
	if len(terms) != size+2 {
		giveUp(api.ErrTrans, l.first)
	}
	row := api.Trans{Centre: terms[0], Around: terms[1 : size+1], Out: terms[size+1]}
	if !isSaid(row) {
		giveUp(api.ErrVar, last)
	}
	r.table.Rows = append(r.table.Rows, row)
}

// takeTerms goes over terms with commas between, and tells the place of the last one.
func (r *reader) takeTerms(l line) (terms []api.Term, last int) {
	for {
		l.Blanks()
		last = l.here()
		terms = append(terms, r.takeTerm(l))
		if l.ends() {
			return terms, last
		}
		l.must(',')
	}
}

// takeBytes goes over terms of one byte each, and tells the place of the last one. Each is cut out, for two digits together would be one number.
func (r *reader) takeBytes(l line) (terms []api.Term, last int) {
	for i := range len(l.text) {
		last = l.first + i
		terms = append(terms, r.takeTerm(piece(last, l.text[i:i+1])))
	}
	return terms, last
}
