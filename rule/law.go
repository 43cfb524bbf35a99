package rule

import (
	"vivarium/api"
	"vivarium/gens"
	"vivarium/hood"
	"vivarium/life"
)

// law is a rule of any kind, as the calls of this package ask it. All but check is asked only where check has found nothing wrong.
type law interface {
	check() api.Errno
	text() string
	states() int
	near() uint8
	next(centre uint8, around []uint8) uint8 // of states that it has, and as many neighbours as there are
	at(centre uint8) law                     // what says the same of this centre, and may be quicker to ask
	rule() api.Rule                          // in memory of its own
}

// lawOf is the law of a rule, or Check's error.
func lawOf(r api.Rule) (law, api.Errno) {
	l, is := byKind(r)
	if !is {
		return nil, api.ErrRule
	}
	if e := l.check(); e != api.OK {
		return nil, e
	}
	return l, api.OK
}

// taken is the law of a rule that may be: for calls that do not tell what is wrong with it.
func taken(r api.Rule) (law, api.Errno) {
	l, e := lawOf(r)
	if e != api.OK {
		return nil, api.ErrRule
	}
	return l, api.OK
}

// byKind is the law of a rule's kind, whether it may be or not; false, if there is no such kind, or a field is filled that the kind does not use.
func byKind(r api.Rule) (law, bool) {
	hasTable := r.Name != "" || !isNone(r.Table)
	switch r.Kind {
	case api.KindLife:
		return births{counting{r.Gens}}, !hasTable
	case api.KindGens:
		return fading{counting{r.Gens}}, !hasTable
	case api.KindTable:
		return told{name: r.Name, table: r.Table}, r.Gens == api.Gens{}
	}
	return nil, false
}

// sizeOf is how many neighbours a cell has by a law.
func sizeOf(l law) int {
	size, _ := hood.Size(l.near()) // check has looked at it
	return size
}

// counting is what rules of births and stays have in common, whether their dead fade or not.
type counting struct {
	gens api.Gens
}

func (c counting) states() int { return c.gens.States }

func (c counting) near() uint8 { return c.gens.Life.Hood }

// living is how many neighbours have the state 1: those that fade do not count.
func living(around []uint8) int {
	count := 0
	for _, state := range around {
		if state == 1 {
			count++
		}
	}
	return count
}

// births is a rule of KindLife.
type births struct {
	counting
}

// deadOrLiving is how many states such a rule has.
const deadOrLiving = 2

func (b births) check() api.Errno {
	if e := life.Check(b.gens.Life); e != api.OK {
		return e
	}
	if b.gens.States != deadOrLiving {
		return api.ErrGens
	}
	return api.OK
}

func (b births) text() string {
	text, _ := life.Print(b.gens.Life)
	return text
}

func (b births) next(centre uint8, around []uint8) uint8 {
	state, _ := life.Next(b.gens.Life, centre, living(around))
	return state
}

func (b births) at(uint8) law { return b }

func (b births) rule() api.Rule { return api.Rule{Kind: api.KindLife, Gens: b.gens} }

// fading is a rule of KindGens.
type fading struct {
	counting
}

func (f fading) check() api.Errno { return gens.Check(f.gens) }

func (f fading) text() string {
	text, _ := gens.Print(f.gens)
	return text
}

func (f fading) next(centre uint8, around []uint8) uint8 {
	state, _ := gens.Next(f.gens, centre, living(around))
	return state
}

func (f fading) at(uint8) law { return f }

func (f fading) rule() api.Rule { return api.Rule{Kind: api.KindGens, Gens: f.gens} }
