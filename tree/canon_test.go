package tree_test

import (
	"testing"

	"vivarium/api"
	"vivarium/tree"
)

// P11.3: the one form of a tree, and whether two trees are one function.

func TestCanonIsTheOneForm(t *testing.T) {
	loose := 0
	chance(7, 12, func(d *dice, f function) {
		k := d.loose(f)
		made, e := tree.Canon(k)
		is(t, "Canon", made, e, f.form())
		if len(made.Nodes) < len(k.Nodes) {
			loose++
		}
	})
	if loose < 100 {
		t.Errorf("%d trees were not in their one form", loose)
	}
}

func TestCanonOfAllSmallTrees(t *testing.T) {
	everyTree(smallNodes, 3, func(k api.Tree) {
		made, e := tree.Canon(k)
		if !modelMayBe(k) {
			isNone(t, "Canon", made, e, api.ErrTree)
			return
		}
		is(t, "Canon", made, e, functionOfTree(k).form())
	})
}

func TestCanonByHand(t *testing.T) {
	for what, pair := range map[string][2]api.Tree{
		"leaves that stand twice":   {make2(1, 2, leaf(1), leaf(1), branch(0, 1)), make2(1, 1, leaf(1), branch(0, 0))},
		"leaves the other way":      {make2(1, 2, leaf(1), leaf(0), branch(1, 0)), make2(1, 2, leaf(0), leaf(1), branch(0, 1))},
		"branches that stand twice": {make2(2, 4, leaf(0), leaf(1), branch(0, 1), branch(0, 1), branch(2, 3)), make2(2, 3, leaf(0), leaf(1), branch(0, 1), branch(2, 2))},
		"twins upon twins":          {make2(2, 6, leaf(1), leaf(0), leaf(1), leaf(0), branch(1, 0), branch(3, 2), branch(4, 5)), make2(2, 3, leaf(0), leaf(1), branch(0, 1), branch(2, 2))},
		"none comes to them":        {make2(0, 1, leaf(1), leaf(0), leaf(1), branch(0, 1)), make2(0, 0, leaf(0))},
		"above Root":                {make2(1, 1, leaf(1), branch(0, 0), branch(1, 1)), make2(1, 1, leaf(1), branch(0, 0))},
		"the last one ends first":   {make2(2, 4, leaf(0), leaf(1), branch(0, 1), branch(1, 0), branch(3, 2)), make2(2, 4, leaf(1), leaf(0), branch(0, 1), branch(1, 0), branch(2, 3))},
	} {
		made, e := tree.Canon(pair[0])
		is(t, what, made, e, pair[1])
	}
}

// TestCanonOfGreatFunctions: more rows than can be gone through.
func TestCanonOfGreatFunctions(t *testing.T) {
	want := constant(256, 16, 9)
	made, e := tree.Canon(want)
	is(t, "Canon", made, e, want)
	loose := api.Tree{States: 256, Inputs: 16, Nodes: []api.Branch{leaf(9), leaf(9)}}
	for n := 2; n < 34; n += 2 { // each node twice, and each one's Kids are both below it
		for range 2 {
			kids := make([]int, 256)
			for i := range kids {
				kids[i] = n - 2 + i%2
			}
			loose.Nodes = append(loose.Nodes, branch(kids...))
		}
	}
	for _, loose.Root = range []int{32, 33} {
		made, e = tree.Canon(loose)
		is(t, "Canon", made, e, want)
		sameAs(t, loose, want, true)
	}
}

func TestCanonOfMostNodes(t *testing.T) {
	made := mustOf(t, 4, 10, wide(api.MaxNodes-aboveWide-belowWide))
	again, e := tree.Canon(made)
	is(t, "Canon", again, e, made)
	leaves := make2(0, api.MaxNodes-1, make([]api.Branch, api.MaxNodes)...)
	again, e = tree.Canon(leaves)
	is(t, "Canon", again, e, make2(0, 0, leaf(0)))
}

func TestCanonIsTheSameEachTime(t *testing.T) {
	d := dice(8)
	f := d.function(3, 5)
	k, want := d.loose(f), f.form()
	for range 50 {
		made, e := tree.Canon(k)
		is(t, "Canon", made, e, want)
	}
}

// sameAs looks whether two trees are Same, either way.
func sameAs(t *testing.T, a, b api.Tree, want bool) {
	t.Helper()
	for range 2 {
		if s, e := tree.Same(a, b); s != want || e != api.OK {
			t.Errorf("Same(%v, %v) = %v, %d, not %v", brief(a), brief(b), s, e, want)
		}
		a, b = b, a
	}
}

func TestSameOfOneFunction(t *testing.T) {
	unlike := 0
	chance(9, 8, func(d *dice, f function) {
		a, b := d.loose(f), d.loose(f)
		sameAs(t, a, b, true)
		sameAs(t, a, a, true)
		sameAs(t, a, f.form(), true)
		if !same(a, b) {
			unlike++
		}
	})
	if unlike < 50 {
		t.Errorf("%d pairs of unlike trees", unlike)
	}
}

// TestSameOfFunctionsThatDiffer: in one row, each in its turn.
func TestSameOfFunctionsThatDiffer(t *testing.T) {
	d := dice(10)
	for _, size := range []struct{ states, inputs int }{{2, 0}, {2, 1}, {2, 4}, {3, 3}, {5, 2}, {256, 0}, {256, 1}} {
		f := d.function(size.states, size.inputs)
		a := d.loose(f)
		for row := range f.answers {
			f.answers[row] = uint8((int(f.answers[row]) + 1) % f.states)
			sameAs(t, a, d.loose(f), false)
			f.answers[row] = uint8((int(f.answers[row]) + f.states - 1) % f.states)
		}
		sameAs(t, a, d.loose(f), true)
	}
}

func TestSameOfUnlikeStatesOrInputs(t *testing.T) {
	for states := 1; states <= 5; states++ {
		for inputs := range 4 {
			for others := 1; others <= 5; others++ {
				for more := range 4 {
					sameAs(t, constant(states, inputs, 0), constant(others, more, 0), states == others && inputs == more)
				}
			}
		}
	}
	sameAs(t, constant(1, 15, 0), constant(1, 16, 0), false)
	sameAs(t, constant(256, 0, 7), constant(255, 0, 7), false)
	sameAs(t, constant(256, 0, 7), constant(8, 0, 7), false)
}

func TestSameOfAllSmallTrees(t *testing.T) {
	var list []api.Tree
	everyTree(smallNodes, 3, func(k api.Tree) {
		if modelMayBe(k) {
			list = append(list, k)
		}
	})
	for i, a := range list {
		for j := i % 7; j < len(list); j += 7 {
			b := list[j]
			want := a.States == b.States && a.Inputs == b.Inputs && string(functionOfTree(a).answers) == string(functionOfTree(b).answers)
			sameAs(t, a, b, want)
		}
	}
}
