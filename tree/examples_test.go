package tree_test

import (
	"testing"

	"vivarium/api"
	"vivarium/tree"
)

// The rows of the chapter's section Examples, in their order.

func TestExamplesOfOf(t *testing.T) {
	made, e := tree.Of(2, 2, differ)
	is(t, "Of(2, 2, X)", made, e, make2(2, 4, leaf(0), leaf(1), branch(0, 1), branch(1, 0), branch(2, 3)))
	made, e = tree.Of(2, 2, always(1))
	is(t, "Of(2, 2, always 1)", made, e, make2(2, 2, leaf(1), branch(0, 0), branch(1, 1)))
	made, e = tree.Of(3, 1, func(in []uint8) uint8 { return 2 - in[0] })
	is(t, "Of(3, 1, 2 less its input)", made, e, api.Tree{States: 3, Inputs: 1, Root: 3, Nodes: []api.Branch{leaf(2), leaf(1), leaf(0), branch(0, 1, 2)}})
	made, e = tree.Of(5, 0, always(4))
	is(t, "Of(5, 0, always 4)", made, e, api.Tree{States: 5, Nodes: []api.Branch{leaf(4)}})
	for _, c := range []struct {
		states, inputs int
		f              func([]uint8) uint8
		want           api.Errno
	}{
		{0, 1, always(0), api.ErrArg}, {2, 17, always(0), api.ErrArg}, {2, 2, nil, api.ErrNil}, {2, 21, nil, api.ErrArg},
		{256, 3, always(0), api.ErrBudget}, {2, 1, always(2), api.ErrState},
	} {
		made, e := tree.Of(c.states, c.inputs, c.f)
		isNone(t, "Of", made, e, c.want)
	}
}

func TestExamplesOfAt(t *testing.T) {
	k := mustOf(t, 2, 2, differ)
	answers(t, k, []uint8{1, 0}, 1)
	answersNot(t, k, []uint8{1}, api.ErrArg)
	answersNot(t, k, []uint8{1, 2}, api.ErrState)
}

func TestExamplesOfCanonAndCheck(t *testing.T) {
	made, e := tree.Canon(make2(2, 5, leaf(1), leaf(0), leaf(0), branch(1, 0), branch(2, 0), branch(3, 4)))
	is(t, "Canon", made, e, make2(2, 3, leaf(0), leaf(1), branch(0, 1), branch(2, 2)))
	mayNotBe(t, "no nodes", make2(0, 0))
	mayNotBe(t, "0: 0 0", make2(1, 0, branch(0, 0)))
	mayNotBe(t, "Inputs 2", make2(2, 1, leaf(0), branch(0, 0)))
	mayNotBe(t, "0: = 2", make2(0, 0, leaf(2)))
}

func TestExamplesOfKeeps(t *testing.T) {
	keeps(t, mustOf(t, 2, 2, differ), []int{1, 0}, true)
	keeps(t, mustOf(t, 2, 2, first), []int{1, 0}, false)
	keepsNone(t, mustOf(t, 2, 2, differ), []int{0, 0}, api.ErrPerm)
}

func TestExamplesOfTexts(t *testing.T) {
	k := mustOf(t, 2, 1, first)
	prints(t, k, "tree 2 1 3 2\n= 0\n= 1\n0 1\n")
	reads(t, "tree 2 1 3 2\n= 0\n= 1\n0 1\n", k)
	refuses(t, "tree 2 1 3 2\n= 0\n= 1\n0 1", api.ErrTree, 24)
	for _, more := range []string{"x", "\n", "0", " ", "="} {
		refuses(t, "tree 2 1 3 2\n= 0\n= 1\n0 1\n"+more, api.ErrTree, 25)
	}
	refuses(t, "tree 2 1 3 02\n= 0\n= 1\n0 1\n", api.ErrTree, 12)
	refuses(t, "tree 2 0 1 0\n= 2\n", api.ErrTree, 0)
	refuses(t, "tree 2 0 65537 0\n", api.ErrTree, 9)
}
