package tree_test

import (
	"strings"
	"testing"

	"vivarium/api"
	"vivarium/tree"
)

// P11.5: a tree's text. (That Print tells ErrTree ahead of all else: see check_test.go.)

func prints(t *testing.T, k api.Tree, want string) {
	t.Helper()
	if s, e := tree.Print(k); s != want || e != api.OK {
		t.Errorf("Print(%v) = %q, %d, not %q", brief(k), cut(s), e, cut(want))
	}
}

// cut is a text as a test tells it.
func cut(s string) string {
	if len(s) > 100 {
		return s[:50] + ".." + s[len(s)-40:]
	}
	return s
}

func TestPrintByHand(t *testing.T) {
	prints(t, good(), "tree 2 2 9 5\n= 1\n= 0\n= 0\n1 0\n2 0\n3 4\n5 5\n= 1\n6 6\n")
	prints(t, make2(0, 0, leaf(0)), "tree 2 0 1 0\n= 0\n")
	prints(t, make2(0, 1, leaf(0), api.Branch{State: 1, Kids: []int{}}), "tree 2 0 2 1\n= 0\n= 1\n")
	prints(t, constant(1, 3, 0), "tree 1 3 4 3\n= 0\n0\n1\n2\n")
	prints(t, constant(256, 0, 255), "tree 256 0 1 0\n= 255\n")
	prints(t, constant(11, 1, 10), "tree 11 1 2 1\n= 10\n0 0 0 0 0 0 0 0 0 0 0\n")
	prints(t, constant(3, 11, 2), "tree 3 11 12 11\n= 2\n0 0 0\n1 1 1\n2 2 2\n3 3 3\n4 4 4\n5 5 5\n6 6 6\n7 7 7\n8 8 8\n9 9 9\n10 10 10\n")
}

func TestPrintByChance(t *testing.T) {
	chance(13, 8, func(d *dice, f function) {
		k := d.loose(f)
		prints(t, k, rawText(k))
		prints(t, f.form(), rawText(f.form()))
	})
}

func TestPrintOfAllSmallTrees(t *testing.T) {
	everyTree(smallNodes, 3, func(k api.Tree) {
		if modelMayBe(k) {
			prints(t, k, rawText(k))
		} else if s, e := tree.Print(k); s != "" || e != api.ErrTree {
			t.Errorf("Print(%v) = %q, %d", k, s, e)
		}
	})
}

// long is a tree whose text has so many bytes, more than a million: lines of 512 bytes, till some Kids of two digits make up for what lacks.
func long(t *testing.T, bytes int) api.Tree {
	t.Helper()
	k := api.Tree{States: 256, Root: 10, Nodes: make([]api.Branch, 11)}
	for len(k.Nodes) < 2058 {
		k.Nodes = append(k.Nodes, branch(make([]int, 256)...))
	}
	lack := bytes - len(rawText(k))
	for n := 11; lack > 0; n++ {
		for i := 0; i < 256 && lack > 0; i, lack = i+1, lack-1 {
			k.Nodes[n].Kids[i] = 10
		}
	}
	if text := rawText(k); len(text) != bytes || !modelMayBe(k) {
		t.Fatalf("%d bytes, not %d", len(text), bytes)
	}
	return k
}

func TestPrintOfLongTexts(t *testing.T) {
	for _, less := range []int{0, 1, 2, 300} {
		k := long(t, api.MaxText-less)
		prints(t, k, rawText(k))
	}
	for _, more := range []int{1, 2, 511, 512, 513, 100000} {
		if s, e := tree.Print(long(t, api.MaxText+more)); s != "" || e != api.ErrText {
			t.Errorf("%d bytes more: %q, %d", more, cut(s), e)
		}
	}
}

// TestPrintOfMostNodes: a text of as many lines as there can be.
func TestPrintOfMostNodes(t *testing.T) {
	leaves := make2(0, api.MaxNodes-1, make([]api.Branch, api.MaxNodes)...)
	prints(t, leaves, "tree 2 0 65536 65535\n"+strings.Repeat("= 0\n", api.MaxNodes))
	tall := api.Tree{States: 1, Inputs: 9, Root: 9, Nodes: []api.Branch{leaf(0)}}
	for len(tall.Nodes) < api.MaxNodes {
		tall.Nodes = append(tall.Nodes, branch(len(tall.Nodes)-1))
	}
	prints(t, tall, rawText(tall))
}
