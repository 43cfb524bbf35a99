package tree_test

import (
	"math"
	"slices"
	"testing"

	"vivarium/api"
	"vivarium/tree"
)

// P11.2, P11.3, P11.4, P11.5: which trees may be, and what the calls answer of those that may not.

// mayBe looks at a tree that may be.
func mayBe(t *testing.T, what string, k api.Tree) {
	t.Helper()
	if e := tree.Check(k); e != api.OK {
		t.Errorf("%s: %v: %d", what, brief(k), e)
	}
}

// mayNotBe looks at a tree that may not be, and whether each call tells so, ahead of all else.
func mayNotBe(t *testing.T, what string, k api.Tree) {
	t.Helper()
	if e := tree.Check(k); e != api.ErrTree {
		t.Errorf("%s: Check(%v) = %d", what, brief(k), e)
	}
	refusedByAll(t, what, k)
}

// refusedByAll looks at the calls behind Check.
func refusedByAll(t *testing.T, what string, k api.Tree) {
	t.Helper()
	for _, in := range [][]uint8{nil, {0}, {0, 0}, {255}} {
		if s, e := tree.At(k, in); s != 0 || e != api.ErrTree {
			t.Errorf("%s: At(%v, %v) = %d, %d", what, brief(k), in, s, e)
		}
	}
	made, e := tree.Canon(k)
	isNone(t, what+": Canon", made, e, api.ErrTree)
	good := constant(2, 1, 0)
	for _, pair := range [][2]api.Tree{{k, good}, {good, k}, {k, k}} {
		if s, e := tree.Same(pair[0], pair[1]); s || e != api.ErrTree {
			t.Errorf("%s: Same of %v: %v, %d", what, brief(k), s, e)
		}
	}
	for _, perm := range [][]int{nil, {0}, {1, 0}, {7}} {
		if s, e := tree.Keeps(k, perm); s || e != api.ErrTree {
			t.Errorf("%s: Keeps(%v, %v) = %v, %d", what, brief(k), perm, s, e)
		}
	}
	if s, e := tree.Print(k); s != "" || e != api.ErrTree {
		t.Errorf("%s: Print(%v) = %q, %d", what, brief(k), s, e)
	}
}

// good is a tree of two states and two inputs with all that one may have: twins, nodes that Root does not come to, levels above Root's, a Root that is not the last one.
func good() api.Tree {
	return make2(2, 5, leaf(1), leaf(0), leaf(0), branch(1, 0), branch(2, 0), branch(3, 4), branch(5, 5), leaf(1), branch(6, 6))
}

func TestCheckOfGoodTrees(t *testing.T) {
	mayBe(t, "good", good())
	mayBe(t, "one leaf", make2(0, 0, leaf(1)))
	mayBe(t, "Root in the middle", make2(0, 1, leaf(1), leaf(0), branch(0, 1)))
	mayBe(t, "twice one kid", make2(1, 1, leaf(1), branch(0, 0)))
	mayBe(t, "a list of no kids", make2(0, 0, api.Branch{State: 1, Kids: []int{}}))
	mayBe(t, "one state", api.Tree{States: 1, Inputs: 1, Root: 1, Nodes: []api.Branch{leaf(0), branch(0)}})
	chance(4, 5, func(d *dice, f function) {
		mayBe(t, "loose", d.loose(f))
		mayBe(t, "form", f.form())
	})
}

func TestCheckOfEachFault(t *testing.T) {
	for what, spoil := range map[string]func(*api.Tree){
		"no nodes":                       func(k *api.Tree) { k.Nodes = nil },
		"a list of no nodes":             func(k *api.Tree) { k.Nodes = []api.Branch{} },
		"no states":                      func(k *api.Tree) { k.States = 0 },
		"states below 0":                 func(k *api.Tree) { k.States = -2 },
		"one state less":                 func(k *api.Tree) { k.States = 1 },
		"one state more":                 func(k *api.Tree) { k.States = 3 },
		"least states":                   func(k *api.Tree) { k.States = math.MinInt },
		"most states":                    func(k *api.Tree) { k.States = math.MaxInt },
		"inputs below 0":                 func(k *api.Tree) { k.Inputs = -1 },
		"one input less":                 func(k *api.Tree) { k.Inputs = 1 },
		"one input more":                 func(k *api.Tree) { k.Inputs = 3 },
		"no inputs":                      func(k *api.Tree) { k.Inputs = 0 },
		"most inputs":                    func(k *api.Tree) { k.Inputs = math.MaxInt },
		"Root below 0":                   func(k *api.Tree) { k.Root = -1 },
		"least Root":                     func(k *api.Tree) { k.Root = math.MinInt },
		"Root behind the end":            func(k *api.Tree) { k.Root = len(k.Nodes) },
		"most Root":                      func(k *api.Tree) { k.Root = math.MaxInt },
		"Root a leaf":                    func(k *api.Tree) { k.Root = 0 },
		"Root too low":                   func(k *api.Tree) { k.Root = 3 },
		"Root too high":                  func(k *api.Tree) { k.Root = 6 },
		"a leaf's State":                 func(k *api.Tree) { k.Nodes[0].State = 2 },
		"a leaf's highest State":         func(k *api.Tree) { k.Nodes[1].State = 255 },
		"a State where none comes to":    func(k *api.Tree) { k.Nodes[7].State = 2 },
		"a branch with a State":          func(k *api.Tree) { k.Nodes[3].State = 1 },
		"Root with a State":              func(k *api.Tree) { k.Nodes[5].State = 1 },
		"a State above Root":             func(k *api.Tree) { k.Nodes[6].State = 1 },
		"too few Kids":                   func(k *api.Tree) { k.Nodes[3].Kids = []int{1} },
		"too many Kids":                  func(k *api.Tree) { k.Nodes[3].Kids = []int{1, 0, 0} },
		"too few Kids of Root":           func(k *api.Tree) { k.Nodes[5].Kids = []int{3} },
		"too few Kids above Root":        func(k *api.Tree) { k.Nodes[8].Kids = []int{6} },
		"too many Kids above Root":       func(k *api.Tree) { k.Nodes[8].Kids = []int{6, 6, 6} },
		"a Kid that is itself":           func(k *api.Tree) { k.Nodes[3].Kids[1] = 3 },
		"a first Kid that is itself":     func(k *api.Tree) { k.Nodes[3].Kids[0] = 3 },
		"a Kid behind it":                func(k *api.Tree) { k.Nodes[3].Kids[1] = 7 },
		"a first Kid behind it":          func(k *api.Tree) { k.Nodes[3].Kids[0] = 7 },
		"both Kids behind it":            func(k *api.Tree) { k.Nodes[3].Kids = []int{7, 7} },
		"a Kid behind the end":           func(k *api.Tree) { k.Nodes[3].Kids[1] = 9 },
		"a Kid below 0":                  func(k *api.Tree) { k.Nodes[3].Kids[1] = -1 },
		"a first Kid below 0":            func(k *api.Tree) { k.Nodes[3].Kids[0] = -1 },
		"least Kid":                      func(k *api.Tree) { k.Nodes[3].Kids[1] = math.MinInt },
		"most Kid":                       func(k *api.Tree) { k.Nodes[3].Kids[1] = math.MaxInt },
		"a Kid behind it above Root":     func(k *api.Tree) { k.Nodes[6].Kids = []int{6, 6} },
		"Kids of unlike levels":          func(k *api.Tree) { k.Nodes[5].Kids[1] = 0 },
		"Kids of levels the other way":   func(k *api.Tree) { k.Nodes[5].Kids[0] = 0 },
		"unlike levels above Root":       func(k *api.Tree) { k.Nodes[8].Kids[1] = 5 },
		"a level that changes all above": func(k *api.Tree) { k.Nodes[3] = leaf(0) },
	} {
		k := good()
		spoil(&k)
		mayNotBe(t, what, k)
	}
	mayNotBe(t, "nothing", api.Tree{})
	mayNotBe(t, "one state and a State", api.Tree{States: 1, Nodes: []api.Branch{leaf(1)}})
	mayNotBe(t, "one state and two Kids", api.Tree{States: 1, Inputs: 1, Root: 1, Nodes: []api.Branch{leaf(0), branch(0, 0)}})
	mayNotBe(t, "no states and one leaf", api.Tree{Nodes: []api.Branch{leaf(0)}})
}

// everyTree goes through all trees of at most so many nodes, out of those nodes, with all numbers around.
func everyTree(nodes []api.Branch, most int, see func(api.Tree)) {
	var add func(list []api.Branch)
	add = func(list []api.Branch) {
		for states := range 4 {
			for inputs := -1; inputs <= most; inputs++ {
				for root := -1; root <= len(list); root++ {
					see(api.Tree{States: states, Inputs: inputs, Nodes: list, Root: root})
				}
			}
		}
		if len(list) == most {
			return
		}
		for _, node := range nodes {
			add(append(slices.Clone(list), node))
		}
	}
	add(nil)
}

// smallNodes are nodes of which trees of two states, or of one, can be made, and others.
var smallNodes = []api.Branch{
	leaf(0), leaf(1), leaf(2), branch(0), branch(1), branch(0, 0), branch(0, 1), branch(1, 0), branch(1, 1), branch(2, 2), branch(1, 2), branch(-1, 0), branch(0, -1), branch(0, 3), branch(0, 0, 0), {State: 1, Kids: []int{0, 0}}, {State: 1, Kids: []int{0}},
}

func TestCheckOfAllSmallTrees(t *testing.T) {
	good := 0
	everyTree(smallNodes, 3, func(k api.Tree) {
		want := api.ErrTree
		if modelMayBe(k) {
			want = api.OK
			good++
		}
		if e := tree.Check(k); e != want {
			t.Errorf("Check(%v) = %d, not %d", k, e, want)
		}
	})
	if good < 200 {
		t.Errorf("%d trees may be", good)
	}
}

// TestCheckOfSpoiltTrees: one number changed in trees by chance.
func TestCheckOfSpoiltTrees(t *testing.T) {
	seen := map[api.Errno]int{}
	chance(5, 60, func(d *dice, f function) {
		if f.inputs > 4 || f.states > 5 {
			return
		}
		k := d.loose(f)
		n := d.below(len(k.Nodes))
		switch node := &k.Nodes[n]; d.below(6) {
		case 0:
			node.State = uint8(d.below(k.States + 2))
		case 1:
			node.Kids = node.Kids[:d.below(len(node.Kids)+1)]
		case 2:
			node.Kids = append(node.Kids, d.below(len(k.Nodes)))
		case 3:
			k.Root = d.below(len(k.Nodes))
		case 4:
			k.Nodes = slices.Delete(k.Nodes, n, n+1)
		default:
			if len(node.Kids) > 0 {
				node.Kids[d.below(len(node.Kids))] = d.below(len(k.Nodes)+2) - 1
			}
		}
		want := api.ErrTree
		if modelMayBe(k) {
			want = api.OK
		}
		seen[want]++
		if e := tree.Check(k); e != want {
			t.Errorf("Check(%v) = %d, not %d", k, e, want)
		}
	})
	if seen[api.OK] < 50 || seen[api.ErrTree] < 50 {
		t.Error(seen)
	}
}

func TestCheckOfMostNodes(t *testing.T) {
	leaves := make([]api.Branch, api.MaxNodes+1)
	for _, root := range []int{0, 1, api.MaxNodes - 1} {
		mayBe(t, "MaxNodes nodes", make2(0, root, leaves[:api.MaxNodes]...))
		mayNotBe(t, "one node more", make2(0, root, leaves...))
	}
	mayNotBe(t, "Root behind MaxNodes nodes", make2(0, api.MaxNodes, leaves[:api.MaxNodes]...))
	mayNotBe(t, "Root the last of one node more", make2(0, api.MaxNodes, leaves...))
	tall := api.Tree{States: 1, Inputs: 16, Root: 16, Nodes: []api.Branch{leaf(0)}}
	for len(tall.Nodes) < api.MaxNodes {
		tall.Nodes = append(tall.Nodes, branch(len(tall.Nodes)-1))
	}
	mayBe(t, "as many levels as nodes", tall)
	tall.Inputs, tall.Root = 17, 17
	mayNotBe(t, "Root on level 17", tall)
	tall.Inputs, tall.Root = api.MaxNodes-1, api.MaxNodes-1
	mayNotBe(t, "Root on the last level", tall)
}

func TestCheckOfMostInputsAndStates(t *testing.T) {
	for states := 1; states <= 256; states += 15 {
		for inputs := range 17 {
			mayBe(t, "constant", constant(states, inputs, uint8(states-1)))
		}
		mayNotBe(t, "17 inputs", constant(states, 17, 0))
		mayNotBe(t, "18 inputs", constant(states, 18, 0))
	}
	mayBe(t, "256 states", constant(256, 16, 255))
	mayNotBe(t, "257 states", constant(257, 16, 255))
	mayNotBe(t, "257 states", constant(257, 1, 0))
	mayNotBe(t, "257 states", constant(257, 0, 0))
	mayNotBe(t, "1000 states", constant(1000, 1, 0))
	all := api.Tree{States: 256, Inputs: 1, Root: 256}
	var kids []int
	for s := range 256 {
		all.Nodes = append(all.Nodes, leaf(uint8(s)))
		kids = append(kids, 255-s)
	}
	all.Nodes = append(all.Nodes, branch(kids...))
	mayBe(t, "all states", all)
	for s := 1; s <= 255; s++ {
		mayNotBe(t, "a State that is none", api.Tree{States: s, Nodes: []api.Branch{leaf(uint8(s))}})
		mayBe(t, "the highest State", api.Tree{States: s, Nodes: []api.Branch{leaf(uint8(s - 1))}})
	}
}

// TestCheckOfTheGreatestTree: MaxNodes nodes of MaxStates Kids.
func TestCheckOfTheGreatestTree(t *testing.T) {
	k := api.Tree{States: 256, Inputs: 1, Root: 1, Nodes: []api.Branch{leaf(7)}}
	kids := make([]int, 256)
	for len(k.Nodes) < api.MaxNodes {
		k.Nodes = append(k.Nodes, api.Branch{Kids: kids})
	}
	mayBe(t, "the greatest tree", k)
	made, e := tree.Canon(k)
	is(t, "Canon", made, e, constant(256, 1, 7))
	if s, e := tree.Print(k); s != "" || e != api.ErrText {
		t.Errorf("%d bytes, %d", len(s), e)
	}
}
