package rule

import (
	"maps"
	"slices"
	"strings"

	"vivarium/api"
	"vivarium/gens"
	"vivarium/life"
	"vivarium/table"
)

// Book keeps tables by their names.
type Book struct {
	tables map[string]api.Table // none of a book that New did not make
}

// New is a book without tables.
func New() *Book {
	return &Book{tables: map[string]api.Table{}}
}

// lacks tells whether New did not make this book.
func (b *Book) lacks() bool { return b == nil || b.tables == nil }

// Define keeps a table; its error is nil, or wraps an *api.Fault.
func (b *Book) Define(name, text string) error {
	if e := b.refuses(name); e != api.OK {
		return refusal{cause: &api.Fault{Code: e}}
	}
	t, err := table.Parse(text)
	if err != nil {
		return refusal{cause: err}
	}
	b.tables[strings.Clone(name)] = t // cloned, so that the book does not hold a longer text in memory
	return nil
}

// refuses tells why the book can't keep a table by this name, whatever the table is.
func (b *Book) refuses(name string) api.Errno {
	if b.lacks() {
		return api.ErrNil
	}
	if !isName(name) {
		return api.ErrName
	}
	if _, taken := b.tables[name]; taken {
		return api.ErrTaken
	}
	if len(b.tables) == api.MaxTables {
		return api.ErrMany
	}
	return api.OK
}

// Names are the names of its tables, rising.
func (b *Book) Names() []string {
	if b.lacks() {
		return nil
	}
	return slices.Sorted(maps.Keys(b.tables))
}

// Rule reads any rule. (The place is 0 in all cases: a text that is no rule's has no one place that is wrong.)
func (b *Book) Rule(s string) (api.Rule, int, api.Errno) {
	if b.lacks() {
		return api.Rule{}, 0, api.ErrNil
	}
	if len(s) > api.MaxText {
		return api.Rule{}, 0, api.ErrText
	}
	l, is := b.find(s)
	if !is {
		return api.Rule{}, 0, api.ErrUnknown
	}
	return l.rule(), 0, api.OK
}

// find is the law of a text or of a name; false, if there is none.
func (b *Book) find(s string) (law, bool) {
	if l, _, e := life.Parse(s); e == api.OK {
		return births{counting{api.Gens{Life: l, States: deadOrLiving}}}, true
	}
	if g, _, e := gens.Parse(s); e == api.OK {
		return fading{counting{g}}, true
	}
	t, is := b.tables[s]
	return told{name: s, table: t}, is
}
