package rule_test

import (
	"testing"

	"vivarium/api"
	"vivarium/rule"
	"vivarium/tree"
)

// P12.10: what follows.

// TestThereAndBack: Rule of what Print answers is the rule.
func TestThereAndBack(t *testing.T) {
	b := bookOf(t)
	back := func(r api.Rule) {
		t.Helper()
		text, e := rule.Print(r)
		if got, at, f := b.Rule(text); e != api.OK || !same(got, r) || at != 0 || f != api.OK {
			t.Fatalf("Rule(%q): %v, %d, %d, not %v", text, got, at, f, r)
		}
	}
	d := dice(37)
	for range 3000 {
		back(d.counts(hoods[d.below(3)]))
	}
	for states := 2; states <= 256; states++ {
		back(fading(api.Hex, states))
	}
	for born := range uint16(1 << 5) {
		for stay := range uint16(1 << 5) {
			back(api.Rule{Kind: api.KindLife, Gens: api.Gens{Life: api.Life{Hood: api.Neumann, Born: born, Stay: stay}, States: 2}})
			back(api.Rule{Kind: api.KindGens, Gens: api.Gens{Life: api.Life{Hood: api.Neumann, Born: born, Stay: stay}, States: 2}})
		}
	}
	back(ruleT())
	back(ruleW())
	// a rule of another book's, and one that goes by a name with another table
	if _, _, e := rule.New().Rule("t"); e != api.ErrUnknown {
		t.Errorf("a book without the table: %d", e)
	}
	other := ruleT()
	other.Name = "w"
	if r, _, e := b.Rule("w"); same(r, other) || e != api.OK {
		t.Errorf("the name of another table: %v, %d", r, e)
	}
}

// TestKeptTogether: with two parts also the one that both make is kept, and with each the one that takes it back.
func TestKeptTogether(t *testing.T) {
	d := dice(39)
	several := 0
	for _, p := range pairs {
		for n := range 10 {
			r := d.table(p, 2, 1+d.below(2), n%4)
			var kept [8]bool
			for part := range kept {
				kept[part] = mustKeep(t, r, part)
			}
			if !kept[0] {
				t.Fatalf("%v does not keep what leaves all as it is", r)
			}
			for first := range 8 {
				for second := range 8 {
					if kept[first] && kept[second] && !kept[both(first, second)] {
						t.Fatalf("%v keeps %d and %d, not %d", r, first, second, both(first, second))
					}
				}
			}
			several += btoi(kept[1] || kept[2] || kept[4] || kept[5])
		}
	}
	if several < 50 {
		t.Errorf("only %d keep anything", several)
	}
	for _, h := range hoods {
		r := d.counts(h)
		for first := range 8 {
			for second := range 8 {
				if mustKeep(t, r, first) && mustKeep(t, r, second) && !mustKeep(t, r, both(first, second)) {
					t.Fatalf("%v keeps %d and %d, not %d", r, first, second, both(first, second))
				}
			}
		}
	}
}

// TestAcrossIsPart: where a rule keeps the part 5, the exchanged rule says what it says; where not, there are neighbours of which they say unlike things.
func TestAcrossIsPart(t *testing.T) {
	d := dice(41)
	for _, p := range pairs {
		if p.hood == api.Moore {
			continue
		}
		for n := range 10 {
			r := d.table(p, 2, 2, n%4)
			x := mustAcross(t, r)
			alike := true
			for in := range everyRow(2, sizeOf(r)+1) {
				alike = alike && mustNext(t, x, in[0], in[1:]) == mustNext(t, r, in[0], in[1:])
			}
			if alike != mustKeep(t, r, 5) {
				t.Fatalf("%v: the exchanged rule says the same: %v", r, alike)
			}
			one, other := mustTree(t, r), mustTree(t, x)
			if is, e := tree.Same(one, other); is != alike || e != api.OK {
				t.Fatalf("%v: the trees are one: %v, %d", r, is, e)
			}
		}
	}
}

// TestTreeAt: tree.At of Tree is Next.
func TestTreeAt(t *testing.T) {
	d := dice(43)
	for _, r := range treeRules(t) {
		k := mustTree(t, r)
		for range 20 {
			in := d.states(k.Inputs, k.States)
			if got, e := tree.At(k, in); got != mustNext(t, r, in[0], in[1:]) || e != api.OK {
				t.Fatalf("At(Tree(%v), %v): %d, %d", brief(r), in, got, e)
			}
		}
	}
}

// TestTreeKeeps: where a rule keeps a part, its tree is kept by the order that leaves the centre and moves the neighbours.
func TestTreeKeeps(t *testing.T) {
	for _, r := range treeRules(t) {
		k := mustTree(t, r)
		numbers := make([]int, sizeOf(r))
		for i := range numbers {
			numbers[i] = i + 1
		}
		for part := range 8 {
			moved, is := seen(hoodOf(r), part, numbers)
			if !is {
				continue
			}
			want, e := tree.Keeps(k, append([]int{0}, moved...))
			if mustKeep(t, r, part) != want || e != api.OK {
				t.Fatalf("Keeps(%v, %d) is not %v", brief(r), part, want)
			}
		}
	}
}
