package rule_test

import (
	"slices"
	"testing"

	"vivarium/api"
	"vivarium/rule"
)

// P12.9: what is handed in stays as it was, its spare room too; what is answered is the caller's own; the book keeps what it was told.

// roomy is a list with spare room behind it, in which stands junk.
func roomy[T any](list []T, junk T) []T {
	return append(slices.Clone(list), junk, junk, junk)[:len(list)]
}

// roomyRule is a rule all of whose lists have spare room.
func roomyRule(r api.Rule) api.Rule {
	r = clone(r)
	r.Table.Vars = roomy(r.Table.Vars, api.Var{Name: "junk"})
	r.Table.Rows = roomy(r.Table.Rows, api.Trans{Out: st(77)})
	for i, v := range r.Table.Vars {
		r.Table.Vars[i].States = roomy(v.States, 77)
	}
	for i, row := range r.Table.Rows {
		r.Table.Rows[i].Around = roomy(row.Around, st(77))
	}
	return r
}

// toTheEnd is a rule with its lists up to the end of their spare room, in memory of its own.
func toTheEnd(r api.Rule) api.Rule {
	r.Table.Vars, r.Table.Rows = slices.Clone(r.Table.Vars[:cap(r.Table.Vars)]), slices.Clone(r.Table.Rows[:cap(r.Table.Rows)])
	for i, v := range r.Table.Vars {
		r.Table.Vars[i].States = slices.Clone(v.States[:cap(v.States)])
	}
	for i, row := range r.Table.Rows {
		r.Table.Rows[i].Around = slices.Clone(row.Around[:cap(row.Around)])
	}
	return r
}

// spoil writes over a list, its spare room too.
func spoil[T any](list []T, junk T) {
	list = list[:cap(list)]
	for i := range list {
		list[i] = junk
	}
}

// spoilRule writes over all lists of a rule.
func spoilRule(r api.Rule) {
	for _, v := range r.Table.Vars {
		spoil(v.States, 99)
	}
	for _, row := range r.Table.Rows {
		spoil(row.Around, st(99))
	}
	spoil(r.Table.Vars, api.Var{Name: "spoilt"})
	spoil(r.Table.Rows, api.Trans{Out: st(99)})
}

// memoryRules are rules of each kind; tables that stay as they are when they are exchanged, and tables that are told order by order.
func memoryRules(t *testing.T) []api.Rule {
	d := dice(35)
	list := []api.Rule{born(t, "B3/S23"), fading(api.Hex, 5), ruleT(), ruleW(), tabled(api.Table{States: 3, Hood: api.Neumann, Symmetry: api.SymReflect})}
	for _, p := range pairs {
		for out := range 3 {
			if p.hood != api.Moore || p.symmetry != api.SymPermute {
				list = append(list, d.table(p, 2+btoi(p.hood == api.Neumann), 3, out))
			}
		}
	}
	return list
}

func TestHandedInStays(t *testing.T) {
	for _, plain := range memoryRules(t) {
		r := roomyRule(plain)
		was := toTheEnd(r)
		around := roomy(make([]uint8, sizeOf(r)), 1)
		rule.Print(r)
		rule.Check(r)
		rule.States(r)
		rule.Hood(r)
		rule.Next(r, 0, around)
		rule.Next(r, 1, around[:1])
		rule.Quiet(r)
		for part := range 9 {
			rule.Keeps(r, part)
		}
		rule.Tree(r)
		rule.Across(r)
		if !same(toTheEnd(r), was) {
			t.Fatalf("%v has become %v", was, toTheEnd(r))
		}
		if !slices.Equal(around[:cap(around)][:len(around)+3], append(make([]uint8, len(around)), 1, 1, 1)) {
			t.Fatalf("the neighbours have become %v", around[:cap(around)])
		}
	}
}

func TestAcrossIsNewMemory(t *testing.T) {
	for _, plain := range memoryRules(t) {
		r := roomyRule(plain)
		was := toTheEnd(r)
		x := mustAcross(t, r)
		kept := clone(x)
		spoilRule(mustAcross(t, r))
		spoilRule(x)
		if !same(toTheEnd(r), was) {
			t.Fatalf("what Across answers is the argument's memory: %v has become %v", was, toTheEnd(r))
		}
		again := mustAcross(t, r)
		if !same(again, kept) {
			t.Fatalf("%v, and then %v", kept, again)
		}
		spoilRule(r)
		if !same(again, kept) {
			t.Fatalf("what was answered changed with the argument: %v, not %v", again, kept)
		}
	}
}

// apart looks whether no two lists of a rule share memory.
func apart(t *testing.T, r api.Rule) {
	t.Helper()
	was := clone(r)
	for i, v := range r.Table.Vars {
		spoil(v.States, 99)
		copy(v.States, was.Table.Vars[i].States)
		if !same(r, was) {
			t.Fatalf("variable %d of %v shares its states", i, was)
		}
	}
	for i, row := range r.Table.Rows {
		spoil(row.Around, st(99))
		copy(row.Around, was.Table.Rows[i].Around)
		if !same(r, was) {
			t.Fatalf("row %d of %v shares its neighbours", i, was)
		}
	}
}

func TestListsAreApart(t *testing.T) {
	for _, r := range memoryRules(t) {
		apart(t, mustAcross(t, r))
		for i, row := range r.Table.Rows { // rows that share their memory in the argument
			if i > 0 {
				r.Table.Rows[i] = api.Trans{Centre: row.Centre, Around: r.Table.Rows[0].Around, Out: st(0)}
			}
		}
		apart(t, mustAcross(t, r))
	}
	b := rule.New()
	define(t, b, "x", textT+"0,a,a,a,a,a\nvar b={1,a}\nb,b,b,b,b,b\n")
	r, _, _ := b.Rule("x")
	apart(t, r)
}

func TestBookKeeps(t *testing.T) {
	b := bookOf(t)
	define(t, b, "x", textT+"0,a,a,a,a,a\nvar b={1,a}\nb,b,b,b,b,b\n")
	for _, name := range b.Names() {
		first, _, _ := b.Rule(name)
		kept := clone(first)
		spoilRule(first)
		second, _, e := b.Rule(name)
		if !same(second, kept) || e != api.OK {
			t.Fatalf("Rule(%q): %v, and then %v", name, kept, second)
		}
		third, _, _ := b.Rule(name)
		spoilRule(second)
		if !same(third, kept) {
			t.Fatalf("two answers of Rule(%q) share memory", name)
		}
	}
	spoil(b.Names(), "zzz")
	if l := b.Names(); !slices.Equal(l, []string{"t", "w", "x"}) {
		t.Errorf("Names: %q", l)
	}
}

func TestNamesAsTheyWere(t *testing.T) {
	b := bookOf(t)
	l := b.Names()
	define(t, b, "a", textW)
	if !slices.Equal(l, []string{"t", "w"}) {
		t.Errorf("%q", l)
	}
}

func TestTreeIsNewMemory(t *testing.T) {
	for _, r := range memoryRules(t) {
		first, second := mustTree(t, r), mustTree(t, r)
		want := cloneTree(second)
		for _, node := range first.Nodes {
			spoil(node.Kids, -1)
		}
		spoil(first.Nodes, api.Branch{State: 99})
		if !alike(second, want) || !alike(mustTree(t, r), want) {
			t.Fatalf("two trees of %v share memory", r)
		}
	}
}

// cloneTree is the same tree in memory of its own.
func cloneTree(k api.Tree) api.Tree {
	k.Nodes = slices.Clone(k.Nodes)
	for i, node := range k.Nodes {
		k.Nodes[i].Kids = slices.Clone(node.Kids)
	}
	return k
}
