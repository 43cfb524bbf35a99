package tree

import (
	"vivarium/api"
)

// alike is what two nodes have in common that are one: the State, and the Kids, written as a text, for a list can't be part of a key.
type alike struct {
	state uint8
	kids  string
}

// form has the nodes of a function in its one form, with the numbers that they took as they ended.
type form map[alike]int

// number is the number of a node. A node that is new takes the next one, so its Kids must have theirs.
func (f form) number(state uint8, kids []int) int {
	key := alike{state: state, kids: written(kids)}
	n, found := f[key]
	if !found {
		n = len(f)
		f[key] = n
	}
	return n
}

// kidBytes are enough for a number of a form that is more than a tree may have: it has at most one node for each row that was asked, and those above them.
const kidBytes = 3

func written(kids []int) string {
	text := make([]byte, 0, kidBytes*len(kids))
	for _, kid := range kids {
		text = append(text, byte(kid>>16), byte(kid>>8), byte(kid))
	}
	return string(text)
}

// list are the Kids again.
func (a alike) list() []int {
	if a.kids == "" {
		return nil
	}
	kids := make([]int, len(a.kids)/kidBytes)
	for i := range kids {
		at := kidBytes * i
		kids[i] = int(a.kids[at])<<16 | int(a.kids[at+1])<<8 | int(a.kids[at+2])
	}
	return kids
}

// tree is the form as a tree: each node goes to the place of its number, in whatever order the map gives them.
func (f form) tree(states, inputs int) api.Tree {
	nodes := make([]api.Branch, len(f))
	for key, n := range f {
		nodes[n] = api.Branch{State: key.state, Kids: key.list()}
	}
	return api.Tree{States: states, Inputs: inputs, Nodes: nodes, Root: len(nodes) - 1}
}

// formOf is the form of a function whose answers stand in the order of rows.
func formOf(states, inputs int, answers []uint8) form {
	f := form{}
	next := 0
	var node func(level int) int
	node = func(level int) int {
		if level == 0 {
			next++
			return f.number(answers[next-1], nil)
		}
		kids := make([]int, states)
		for i := range kids {
			kids[i] = node(level - 1)
		}
		return f.number(0, kids)
	}
	node(inputs)
	return f
}

// unknown stands for the number of a node that has none yet.
const unknown = -1

// canon is Canon, of a tree that may be.
func canon(t api.Tree) api.Tree {
	f := form{}
	numbers := make([]int, len(t.Nodes))
	for i := range numbers {
		numbers[i] = unknown
	}
	var visit func(n int) int
	visit = func(n int) int {
		if numbers[n] == unknown {
			node := t.Nodes[n]
			kids := make([]int, len(node.Kids))
			for i, kid := range node.Kids {
				kids[i] = visit(kid)
			}
			numbers[n] = f.number(node.State, kids)
		}
		return numbers[n]
	}
	visit(t.Root)
	return f.tree(t.States, t.Inputs)
}
