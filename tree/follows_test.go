package tree_test

import (
	"slices"
	"testing"

	"vivarium/api"
	"vivarium/tree"
)

// P11.7, P11.8: what follows.

// mustCanon is Canon, of a tree that may be.
func mustCanon(t *testing.T, k api.Tree) api.Tree {
	t.Helper()
	made, e := tree.Canon(k)
	if e != api.OK {
		t.Fatalf("Canon(%v): %d", brief(k), e)
	}
	return made
}

// mustPrint is Print, of a tree with a text.
func mustPrint(t *testing.T, k api.Tree) string {
	t.Helper()
	s, e := tree.Print(k)
	if e != api.OK {
		t.Fatalf("Print(%v): %d", brief(k), e)
	}
	return s
}

// mustAt is At of a tree, as a function.
func mustAt(t *testing.T, k api.Tree) func([]uint8) uint8 {
	return func(in []uint8) uint8 {
		s, e := tree.At(k, in)
		if e != api.OK {
			t.Fatalf("At(%v, %v): %d", brief(k), in, e)
		}
		return s
	}
}

func TestAtOfOfIsTheFunction(t *testing.T) {
	chance(14, 6, func(_ *dice, f function) {
		k := mustOf(t, f.states, f.inputs, f.at)
		for _, in := range everyRow(f.states, f.inputs) {
			answers(t, k, in, f.at(in))
		}
	})
}

func TestCanonIsOfOfAt(t *testing.T) {
	chance(15, 6, func(d *dice, f function) {
		k := d.loose(f)
		made, e := tree.Of(k.States, k.Inputs, mustAt(t, k))
		is(t, "Of of At", made, e, mustCanon(t, k))
	})
}

func TestCanonOfTheOneFormIsIt(t *testing.T) {
	chance(16, 6, func(d *dice, f function) {
		for _, k := range []api.Tree{f.form(), mustOf(t, f.states, f.inputs, f.at), mustCanon(t, d.loose(f))} {
			made, e := tree.Canon(k)
			is(t, "Canon", made, e, k)
		}
	})
}

// TestSameIfCanonIsAlike: all pairs of trees of few functions.
func TestSameIfCanonIsAlike(t *testing.T) {
	d := dice(17)
	var list []api.Tree
	for _, size := range []struct{ states, inputs int }{{1, 1}, {2, 0}, {2, 1}, {2, 2}, {3, 1}} {
		for range 40 {
			list = append(list, d.loose(d.function(size.states, size.inputs)))
		}
	}
	seen := map[bool]int{}
	for _, a := range list {
		for _, b := range list {
			alike := same(mustCanon(t, a), mustCanon(t, b))
			sameAs(t, a, b, alike)
			seen[alike]++
		}
	}
	if seen[true] < 1000 || seen[false] < 1000 {
		t.Error(seen)
	}
}

func TestParseOfPrintIsTheTree(t *testing.T) {
	list := []api.Tree{good(), constant(256, 16, 255), constant(1, 16, 0), long(t, api.MaxText)}
	chance(18, 10, func(d *dice, f function) { list = append(list, d.loose(f), f.form()) })
	everyTree(smallNodes, 3, func(k api.Tree) {
		if modelMayBe(k) {
			list = append(list, k)
		}
	})
	for _, k := range list {
		reads(t, mustPrint(t, k), k)
	}
}

// TestPrintOfParseIsTheText: there is one text of each tree alone.
func TestPrintOfParseIsTheText(t *testing.T) {
	for _, s := range texts {
		k, _, e := tree.Parse(s)
		if e != api.OK {
			t.Fatal(s)
		}
		prints(t, k, s)
	}
}

func TestUnlikeTreesHaveUnlikeTexts(t *testing.T) {
	seen := map[string]api.Tree{}
	everyTree(smallNodes, 4, func(k api.Tree) {
		if tree.Check(k) != api.OK {
			return
		}
		s := mustPrint(t, k)
		if other, is := seen[s]; is && !same(k, other) {
			t.Errorf("%q of %v and of %v", s, k, other)
		}
		seen[s] = k
	})
	if len(seen) < 1000 {
		t.Errorf("%d texts", len(seen))
	}
}

// TestKeepsIfTheChangedFunctionIsTheSame: the tree of the function with its inputs changed, by all orders.
func TestKeepsIfTheChangedFunctionIsTheSame(t *testing.T) {
	for _, k := range keepers {
		made := mustOf(t, k.states, k.inputs, k.f)
		for _, perm := range everyOrder(k.inputs) {
			changed := mustOf(t, k.states, k.inputs, func(in []uint8) uint8 { return k.f(reorder(in, perm)) })
			s, e := tree.Same(changed, made)
			if e != api.OK {
				t.Fatal(e)
			}
			keeps(t, made, perm, s)
		}
	}
}

// TestKeepsOneBehindTheOther: with two orders also the two together, and with each the way back.
func TestKeepsOneBehindTheOther(t *testing.T) {
	seen := 0
	for _, k := range keepers {
		made := mustOf(t, k.states, k.inputs, k.f)
		var kept [][]int
		for _, perm := range everyOrder(k.inputs) {
			if s, _ := tree.Keeps(made, perm); s {
				kept = append(kept, perm)
			}
		}
		if !slices.ContainsFunc(kept, func(perm []int) bool { return slices.Equal(perm, identity(k.inputs)) }) {
			t.Errorf("%v does not keep the identity", made)
		}
		for _, a := range kept {
			back := make([]int, len(a))
			for i, n := range a {
				back[n] = i
			}
			keeps(t, made, back, true)
			for _, b := range kept {
				both := make([]int, len(a))
				for i := range both {
					both[i] = a[b[i]]
				}
				keeps(t, made, both, true)
				seen++
			}
		}
	}
	if seen < 500 {
		t.Errorf("%d pairs", seen)
	}
}
