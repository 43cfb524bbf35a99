package tree

import (
	"strconv"

	"vivarium/api"
)

const (
	headWord = "tree"
	leafWord = "= "
	lineEnd  = '\n'
	blank    = ' '
)

// The numbers of the head, in their order.
const (
	statesNumber = iota
	inputsNumber
	nodesNumber
	rootNumber
	headNumbers // how many they are
)

// Print writes a tree.
func Print(t api.Tree) (string, api.Errno) {
	if e := Check(t); e != api.OK {
		return "", e
	}
	text := []byte(headWord)
	for _, n := range [headNumbers]int{t.States, t.Inputs, len(t.Nodes), t.Root} {
		text = append(text, blank)
		text = strconv.AppendInt(text, int64(n), 10)
	}
	text = append(text, lineEnd)
	for _, node := range t.Nodes {
		text = withNode(text, node)
		if len(text) > api.MaxText {
			return "", api.ErrText
		}
	}
	return string(text), api.OK
}

// withNode is a text with a node's line behind it.
func withNode(text []byte, node api.Branch) []byte {
	if isLeaf(node) {
		text = append(text, leafWord...)
		text = strconv.AppendInt(text, int64(node.State), 10)
	}
	for i, kid := range node.Kids {
		if i > 0 {
			text = append(text, blank)
		}
		text = strconv.AppendInt(text, int64(kid), 10)
	}
	return append(text, lineEnd)
}

// Parse reads a tree.
func Parse(s string) (api.Tree, int, api.Errno) {
	if len(s) > api.MaxText {
		return api.Tree{}, 0, api.ErrText
	}
	r := reader{text: s}
	t, ok := r.tree()
	if !ok {
		return api.Tree{}, r.at, api.ErrTree
	}
	if r.noState || Check(t) != api.OK {
		return api.Tree{}, 0, api.ErrTree
	}
	return t, 0, api.OK
}
