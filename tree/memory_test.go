package tree_test

import (
	"slices"
	"testing"

	"vivarium/api"
	"vivarium/tree"
)

// What is handed in stays as it was, its spare room too; what is answered is the caller's own.

// roomy is a list with spare room behind it, in which stands junk.
func roomy[T any](list []T, junk T) []T {
	return append(slices.Clone(list), junk, junk, junk)[:len(list)]
}

// roomyTree is a tree all of whose lists have spare room.
func roomyTree(k api.Tree) api.Tree {
	k.Nodes = roomy(k.Nodes, api.Branch{State: 77})
	for i, node := range k.Nodes {
		k.Nodes[i].Kids = roomy(node.Kids, 77)
	}
	return k
}

// whole is a tree with its lists up to the end of their spare room, in memory of its own.
func whole(k api.Tree) api.Tree {
	k.Nodes = slices.Clone(k.Nodes[:cap(k.Nodes)])
	for i, node := range k.Nodes {
		k.Nodes[i].Kids = slices.Clone(node.Kids[:cap(node.Kids)])
	}
	return k
}

func TestWhatIsHandedInStays(t *testing.T) {
	chance(19, 3, func(d *dice, f function) {
		k, other := roomyTree(d.loose(f)), roomyTree(d.loose(f))
		in, perm := roomy(make([]uint8, f.inputs), 77), roomy(d.order(f.inputs), 77)
		before, otherBefore := whole(k), whole(other)
		inBefore, permBefore := slices.Clone(in[:cap(in)]), slices.Clone(perm[:cap(perm)])
		tree.Check(k)
		tree.At(k, in)
		made, _ := tree.Canon(k)
		spoil(t, made)
		tree.Same(k, other)
		tree.Keeps(k, perm)
		tree.Print(k)
		if !same(whole(k), before) || !same(whole(other), otherBefore) {
			t.Errorf("%v came to be %v", before, whole(k))
		}
		if !slices.Equal(in[:cap(in)], inBefore) || !slices.Equal(perm[:cap(perm)], permBefore) {
			t.Errorf("%v, %v came to be %v, %v", inBefore, permBefore, in[:cap(in)], perm[:cap(perm)])
		}
	})
}

// spoil writes over all that a tree holds, list by list, and looks whether anything but that list changed.
func spoil(t *testing.T, k api.Tree) {
	t.Helper()
	before := clone(k)
	for i := range k.Nodes {
		list := k.Nodes[i].Kids[:cap(k.Nodes[i].Kids)]
		for j := range list {
			list[j] = -1 - i
		}
		for j := range k.Nodes[i].Kids {
			before.Nodes[i].Kids[j] = -1 - i
		}
	}
	if !same(k, before) {
		t.Error("the lists of two nodes share memory")
	}
	clear(k.Nodes[:cap(k.Nodes)])
}

// TestWhatIsAnsweredIsTheCallersOwn: of the calls that answer trees, what is done to an answer is seen neither in another one nor in what is asked next.
func TestWhatIsAnsweredIsTheCallersOwn(t *testing.T) {
	chance(20, 3, func(d *dice, f function) {
		k, want := d.loose(f), f.form()
		text := rawText(want)
		for _, call := range []func() (api.Tree, api.Errno){
			func() (api.Tree, api.Errno) { return tree.Of(f.states, f.inputs, f.at) },
			func() (api.Tree, api.Errno) { return tree.Canon(k) },
			func() (api.Tree, api.Errno) { return tree.Canon(want) },
			func() (api.Tree, api.Errno) {
				made, _, e := tree.Parse(text)
				return made, e
			},
		} {
			one, _ := call()
			two, e := call()
			spoil(t, one)
			is(t, "another answer", two, e, f.form())
			three, e := call()
			is(t, "the next answer", three, e, f.form())
		}
	})
}
