package rule_test

import (
	"slices"
	"testing"

	"vivarium/api"
	"vivarium/rule"
)

// The chapter's Examples, row by row.

// ask is the rule of a text, in the book of the Examples.
func ask(t *testing.T, s string) api.Rule {
	t.Helper()
	r, at, e := bookOf(t).Rule(s)
	if at != 0 || e != api.OK {
		t.Fatalf("Rule(%q): %d, %d", s, at, e)
	}
	return r
}

func TestExamplesBook(t *testing.T) {
	b := bookOf(t)
	isRefused(t, "t again", b.Define("t", textT), api.Fault{Code: api.ErrTaken})
	isRefused(t, "1t", b.Define("1t", textT), api.Fault{Code: api.ErrName})
	isRefused(t, "x", b.Define("u", "x"), api.Fault{Code: api.ErrLine})
	if l := b.Names(); !slices.Equal(l, []string{"t", "w"}) {
		t.Errorf("Names: %q", l)
	}
	for s, kind := range map[string]uint8{"B3/S23": api.KindLife, "345/2/4": api.KindGens, "t": api.KindTable} {
		if r := ask(t, s); r.Kind != kind {
			t.Errorf("Rule(%q): %v", s, r)
		}
	}
	for _, s := range []string{"T", ""} {
		if r, at, e := b.Rule(s); !same(r, api.Rule{}) || at != 0 || e != api.ErrUnknown {
			t.Errorf("Rule(%q): %v, %d, %d", s, r, at, e)
		}
	}
	for s, want := range map[string]string{"B3/S23": "B3/S23", "345/2/4": "B2/S345/C4", "t": "t"} {
		if text, e := rule.Print(ask(t, s)); text != want || e != api.OK {
			t.Errorf("Print of %q: %q, %d", s, text, e)
		}
	}
}

func TestExamplesCheck(t *testing.T) {
	three, named, nameless := ask(t, "B3/S23"), ask(t, "B3/S23"), ask(t, "t")
	three.Gens.States, named.Name, nameless.Name = 3, "a", ""
	for _, x := range []struct {
		r    api.Rule
		want api.Errno
	}{{api.Rule{Kind: 0}, api.ErrRule}, {three, api.ErrGens}, {nameless, api.ErrName}, {named, api.ErrRule}} {
		if e := rule.Check(x.r); e != x.want {
			t.Errorf("Check(%v): %d, not %d", x.r, e, x.want)
		}
	}
	if n, e := rule.States(ask(t, "t")); n != 3 || e != api.OK {
		t.Errorf("States: %d, %d", n, e)
	}
	if h, e := rule.Hood(ask(t, "t")); h != api.Neumann || e != api.OK {
		t.Errorf("Hood: %d, %d", h, e)
	}
}

func TestExamplesNext(t *testing.T) {
	for _, x := range []struct {
		rule   string
		centre uint8
		around []uint8
		want   uint8
		e      api.Errno
	}{
		{"B3/S23", 0, []uint8{1, 1, 1, 0, 0, 0, 0, 0}, 1, api.OK},
		{"345/2/4", 0, []uint8{1, 1, 2, 3, 0, 0, 0, 0}, 1, api.OK},
		{"w", 0, []uint8{1, 0, 0, 0}, 1, api.OK},
		{"w", 0, []uint8{0, 1, 0, 0}, 0, api.OK},
		{"w", 2, []uint8{0, 0, 0, 0}, 0, api.ErrState},
		{"w", 0, []uint8{0, 0, 0}, 0, api.ErrArg},
		{"w", 0, []uint8{0, 0, 0, 2}, 0, api.ErrState},
	} {
		if got, e := rule.Next(ask(t, x.rule), x.centre, x.around); got != x.want || e != x.e {
			t.Errorf("Next(%s, %d, %v): %d, %d", x.rule, x.centre, x.around, got, e)
		}
	}
	for s, want := range map[string]bool{"B3/S23": true, "B0/S": false} {
		if is, e := rule.Quiet(ask(t, s)); is != want || e != api.OK {
			t.Errorf("Quiet of %s: %v, %d", s, is, e)
		}
	}
}

func TestExamplesSeen(t *testing.T) {
	for _, x := range []struct {
		r    api.Rule
		part int
		want bool
		e    api.Errno
	}{
		{ask(t, "B3/S23"), 3, true, api.OK}, {ask(t, "w"), 6, true, api.OK}, {ask(t, "w"), 1, false, api.OK}, {ask(t, "w"), 8, false, api.ErrPart},
		{ask(t, "345/2/256"), 0, true, api.OK}, {tabled(api.Table{States: 256, Hood: api.Neumann}), 0, false, api.ErrBudget},
	} {
		if is, e := rule.Keeps(x.r, x.part); is != x.want || e != x.e {
			t.Errorf("Keeps(%v, %d): %v, %d", x.r, x.part, is, e)
		}
	}
	if k := mustTree(t, ask(t, "w")); k.States != 2 || k.Inputs != 5 {
		t.Errorf("Tree: %v", k)
	}
	w := ask(t, "w")
	isAcross(t, w, api.SymNone, lineOf(0, 0, 0, 0, 1, 1))
	w.Table.Symmetry = api.SymReflect
	isAcross(t, w, api.SymNone, lineOf(0, 0, 0, 0, 1, 1))
}
