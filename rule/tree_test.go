package rule_test

import (
	"slices"
	"testing"

	"vivarium/api"
	"vivarium/rule"
	"vivarium/tree"
)

// P12.7: Tree.

// walk is the answer of a tree that may be.
func walk(k api.Tree, in ...uint8) uint8 {
	node := k.Nodes[k.Root]
	for _, state := range in {
		node = k.Nodes[node.Kids[state]]
	}
	return node.State
}

func mustTree(t *testing.T, r api.Rule) api.Tree {
	t.Helper()
	k, e := rule.Tree(r)
	if e != api.OK {
		t.Fatalf("Tree(%v): %d", brief(r), e)
	}
	if e := tree.Check(k); e != api.OK {
		t.Fatalf("Tree(%v) may not be: %d", brief(r), e)
	}
	return k
}

func alike(a, b api.Tree) bool {
	return a.States == b.States && a.Inputs == b.Inputs && a.Root == b.Root && slices.EqualFunc(a.Nodes, b.Nodes, func(x, y api.Branch) bool {
		return x.State == y.State && slices.Equal(x.Kids, y.Kids)
	})
}

// treeRules are rules of few states, of each kind, neighbourhood and symmetry.
func treeRules(t *testing.T) []api.Rule {
	d := dice(21)
	list := []api.Rule{born(t, "B3/S23"), born(t, "B0/S8"), born(t, "B24/S13V"), born(t, "B2/S34H"), fading(api.Neumann, 2), fading(api.Neumann, 6), fading(api.Hex, 3), fading(api.Moore, 3), ruleT(), ruleW(), tabled(api.Table{States: 3, Hood: api.Moore})}
	for _, p := range pairs {
		for n := range 8 {
			list = append(list, d.table(p, 2+btoi(p.hood == api.Neumann)*d.below(4), d.below(10), n%4))
		}
	}
	return list
}

func TestTreeSaysNext(t *testing.T) {
	for _, r := range treeRules(t) {
		k := mustTree(t, r)
		if k.States != statesOf(r) || k.Inputs != sizeOf(r)+1 {
			t.Fatalf("Tree(%v): %d states, %d inputs", brief(r), k.States, k.Inputs)
		}
		for in := range everyRow(k.States, k.Inputs) {
			if got, want := walk(k, in...), modelNext(r, in[0], in[1:]); got != want {
				t.Fatalf("Tree(%v) of %v: %d, not %d", brief(r), in, got, want)
			}
		}
	}
}

// TestTreeIsOneForm: the tree is that of tree.Of, node by node.
func TestTreeIsOneForm(t *testing.T) {
	for _, r := range treeRules(t) {
		want, e := tree.Of(statesOf(r), sizeOf(r)+1, func(in []uint8) uint8 { return modelNext(r, in[0], in[1:]) })
		if got := mustTree(t, r); e != api.OK || !alike(got, want) {
			t.Fatalf("Tree(%v): %v, not %v", brief(r), got, want)
		}
	}
}

// TestTreeMostAsked looks at as many states as may be asked of, and at one more.
func TestTreeMostAsked(t *testing.T) {
	d := dice(23)
	for h, most := range map[uint8]int{api.Moore: 4, api.Neumann: 16, api.Hex: 7} {
		last := uint8(most - 1)
		rows := []api.Trans{line(append(slices.Repeat([]api.Term{st(last)}, len(offsets[h])+1), st(0))...)}
		for _, r := range []api.Rule{fading(h, most), tabled(api.Table{States: most, Hood: h, Symmetry: api.SymPermute, Rows: rows})} {
			k := mustTree(t, r)
			all := slices.Repeat([]uint8{last}, k.Inputs)
			if walk(k, all...) != modelNext(r, last, all[1:]) {
				t.Errorf("Tree(%v) of %v: %d", r, all, walk(k, all...))
			}
			for range 2000 {
				in := d.states(k.Inputs, most)
				if walk(k, in...) != modelNext(r, in[0], in[1:]) {
					t.Fatalf("Tree(%v) of %v: %d", r, in, walk(k, in...))
				}
			}
		}
		for _, states := range []int{most + 1, 255, 256} {
			for _, r := range []api.Rule{fading(h, states), tabled(api.Table{States: states, Hood: h}), tabled(api.Table{States: states, Hood: h, Vars: []api.Var{anyState("a", states)}, Rows: rows})} {
				if k, e := rule.Tree(r); !alike(k, api.Tree{}) || e != api.ErrBudget {
					t.Errorf("Tree(%v): %d nodes, %d", brief(r), len(k.Nodes), e)
				}
			}
		}
	}
}

// picks is a table of Neumann's in which the west tells which of the other four comes out: no two of its branches above the leaves are alike.
func picks(states int) api.Rule {
	k := api.Table{States: states, Hood: api.Neumann, Vars: []api.Var{anyState("a", states), anyState("b", states), anyState("c", states), anyState("d", states)}}
	for west := range 4 {
		k.Rows = append(k.Rows, line(va(0), va(1), va(2), va(3), st(uint8(west)), va(west)))
	}
	return tabled(k)
}

// TestTreeMostNodes: 15 states make 50625 branches above the leaves, 16 make 65536, more than there may be in all.
func TestTreeMostNodes(t *testing.T) {
	if k := mustTree(t, picks(15)); len(k.Nodes) != 15+15*15*15*15+15*15*15+15*15+15+1 {
		t.Errorf("%d nodes", len(k.Nodes))
	}
	if k, e := rule.Tree(picks(16)); !alike(k, api.Tree{}) || e != api.ErrBudget {
		t.Errorf("%d nodes, %d", len(k.Nodes), e)
	}
	// it is too great for a tree, but not for Keeps
	if !mustKeep(t, picks(16), 0) || mustKeep(t, picks(16), 6) {
		t.Error("Keeps of a rule that is too great for a tree")
	}
}
