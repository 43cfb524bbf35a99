package tree_test

import (
	"math/big"
	"regexp"
	"slices"
	"sort"
	"strconv"
	"strings"
	"testing"

	"vivarium/api"
	"vivarium/tree"
)

// The models: a function is the list of its answers; two nodes are one just if their levels and all their answers are; a text is held against a pattern, beginning by beginning.

func leaf(state uint8) api.Branch        { return api.Branch{State: state} }
func branch(kids ...int) api.Branch      { return api.Branch{Kids: kids} }
func always(s uint8) func([]uint8) uint8 { return func([]uint8) uint8 { return s } }
func first(in []uint8) uint8             { return in[0] }
func differ(in []uint8) uint8            { return in[0] ^ in[1] }

// make2 is a tree of two states.
func make2(inputs, root int, nodes ...api.Branch) api.Tree {
	return api.Tree{States: 2, Inputs: inputs, Root: root, Nodes: nodes}
}

// same tells whether two trees are alike, node by node.
func same(a, b api.Tree) bool {
	return a.States == b.States && a.Inputs == b.Inputs && a.Root == b.Root && slices.EqualFunc(a.Nodes, b.Nodes, func(x, y api.Branch) bool {
		return x.State == y.State && slices.Equal(x.Kids, y.Kids)
	})
}

// zero tells whether nothing is in a tree.
func zero(t api.Tree) bool { return same(t, api.Tree{}) }

// clone is a tree with memory of its own.
func clone(t api.Tree) api.Tree {
	t.Nodes = slices.Clone(t.Nodes)
	for i, node := range t.Nodes {
		t.Nodes[i].Kids = slices.Clone(node.Kids)
	}
	return t
}

// brief is a tree as a test tells it.
func brief(t api.Tree) api.Tree {
	if len(t.Nodes) > 30 || t.States > 30 {
		t.Nodes = nil
	}
	return t
}

// power is a number to the power of another.
func power(base, times int) *big.Int {
	return new(big.Int).Exp(big.NewInt(int64(base)), big.NewInt(int64(times)), nil)
}

// everyRow are all rows of inputs, as numbers are counted up.
func everyRow(states, inputs int) [][]uint8 {
	list := make([][]uint8, power(states, inputs).Int64())
	for n := range list {
		list[n] = make([]uint8, inputs)
		for i, rest := inputs-1, n; i >= 0; i, rest = i-1, rest/states {
			list[n][i] = uint8(rest % states)
		}
	}
	return list
}

// function is a function by its answers, in the order of everyRow.
type function struct {
	states, inputs int
	answers        []uint8
}

// at is what a function answers.
func (f function) at(in []uint8) uint8 {
	n := 0
	for _, state := range in {
		n = n*f.states + int(state)
	}
	return f.answers[n]
}

// functionOf is a function by what answers it.
func functionOf(states, inputs int, f func([]uint8) uint8) function {
	made := function{states: states, inputs: inputs}
	for _, in := range everyRow(states, inputs) {
		made.answers = append(made.answers, f(in))
	}
	return made
}

// piece is what is left of a function behind some inputs.
type piece struct {
	level   int
	answers string
}

// kids are the pieces behind one input more.
func (p piece) kids(states int) []piece {
	var list []piece
	size := len(p.answers) / states
	for i := range states {
		list = append(list, piece{p.level - 1, p.answers[i*size : (i+1)*size]})
	}
	return list
}

// form is the function's one form: its pieces, each once, behind all those that they are made of.
func (f function) form() api.Tree {
	t := api.Tree{States: f.states, Inputs: f.inputs}
	numbers := map[piece]int{}
	var end func(p piece)
	end = func(p piece) {
		if _, is := numbers[p]; is {
			return
		}
		var node api.Branch
		if p.level == 0 {
			node.State = p.answers[0]
		} else {
			for _, kid := range p.kids(f.states) {
				end(kid)
				node.Kids = append(node.Kids, numbers[kid])
			}
		}
		numbers[p] = len(t.Nodes)
		t.Nodes = append(t.Nodes, node)
	}
	end(piece{f.inputs, string(f.answers)})
	t.Root = len(t.Nodes) - 1
	return t
}

// changed is the function of which an order has changed the inputs.
func (f function) changed(perm []int) function {
	return functionOf(f.states, f.inputs, func(in []uint8) uint8 { return f.at(reorder(in, perm)) })
}

// reorder is a row that has at each place i what the row has at perm[i].
func reorder(in []uint8, perm []int) []uint8 {
	out := make([]uint8, len(in))
	for i := range out {
		out[i] = in[perm[i]]
	}
	return out
}

// keeps tells whether an order keeps the function.
func (f function) keeps(perm []int) bool {
	return slices.Equal(f.answers, f.changed(perm).answers)
}

// everyOrder are all orders of n numbers.
func everyOrder(n int) [][]int {
	if n == 0 {
		return [][]int{{}}
	}
	var list [][]int
	for _, rest := range everyOrder(n - 1) {
		for at := range n {
			list = append(list, slices.Insert(slices.Clone(rest), at, n-1))
		}
	}
	return list
}

// modelLevel is a node's level, or -1, if the node may not be.
func modelLevel(t api.Tree, n int) int {
	node := t.Nodes[n]
	if len(node.Kids) == 0 {
		if int(node.State) < t.States {
			return 0
		}
		return -1
	}
	if len(node.Kids) != t.States || node.State != 0 {
		return -1
	}
	levels := map[int]bool{}
	level := -1
	for _, kid := range node.Kids {
		if kid < 0 || kid >= n {
			return -1
		}
		level = modelLevel(t, kid)
		levels[level] = true
	}
	if len(levels) != 1 || level == -1 {
		return -1
	}
	return level + 1
}

// modelMayBe tells whether a tree may be (of few nodes: each is looked at again for each that stands on it).
func modelMayBe(t api.Tree) bool {
	if t.States < 1 || t.States > 256 || t.Inputs < 0 || t.Inputs > 16 || len(t.Nodes) < 1 || len(t.Nodes) > 65536 {
		return false
	}
	for n := range t.Nodes {
		if modelLevel(t, n) == -1 {
			return false
		}
	}
	return t.Root >= 0 && t.Root < len(t.Nodes) && modelLevel(t, t.Root) == t.Inputs
}

// modelAt is the answer of a tree from one of its nodes on.
func modelAt(t api.Tree, n int, in []uint8) uint8 {
	if len(in) == 0 {
		return t.Nodes[n].State
	}
	return modelAt(t, t.Nodes[n].Kids[in[0]], in[1:])
}

// functionOfTree is the function of a tree.
func functionOfTree(t api.Tree) function {
	return functionOf(t.States, t.Inputs, func(in []uint8) uint8 { return modelAt(t, t.Root, in) })
}

// rawText is a tree's text, whether it may be or not.
func rawText(t api.Tree) string {
	lines := []string{"tree " + numbers(t.States, t.Inputs, len(t.Nodes), t.Root)}
	for _, node := range t.Nodes {
		if len(node.Kids) == 0 {
			lines = append(lines, "= "+numbers(int(node.State)))
		} else {
			lines = append(lines, numbers(node.Kids...))
		}
	}
	return strings.Join(lines, "\n") + "\n"
}

func numbers(list ...int) string {
	var texts []string
	for _, n := range list {
		texts = append(texts, strconv.Itoa(n))
	}
	return strings.Join(texts, " ")
}

const numberPattern = `(?:0|[1-9][0-9]{0,8})`

var (
	textPattern  = regexp.MustCompile(`^tree(?: ` + numberPattern + `){4}\n(?:(?:= ` + numberPattern + `|` + numberPattern + `(?: ` + numberPattern + `)*)\n)*$`)
	countPattern = regexp.MustCompile(`^tree ` + numberPattern + ` ` + numberPattern + ` (` + numberPattern + `)`)
)

// ends are what may lack behind the beginning of a text.
func ends() []string {
	list := []string{"= 0\n"}
	const shortest = "tree 0 0 0 0\n"
	for i := range len(shortest) + 1 {
		list = append(list, shortest[i:])
	}
	return list
}

var allEnds = ends()

// count is the third number of a head, and its place; false, if there is none.
func count(s string) (n, at int, is bool) {
	m := countPattern.FindStringSubmatchIndex(s)
	if m == nil {
		return 0, 0, false
	}
	n, _ = strconv.Atoi(s[m[2]:m[3]])
	return n, m[2], true
}

// begun is how many lines of nodes a text has begun.
func begun(s string) int {
	_, rest, _ := strings.Cut(s, "\n")
	if rest == "" {
		return 0
	}
	return len(strings.Split(strings.TrimSuffix(rest, "\n"), "\n"))
}

// canBegin tells whether a text of a tree can begin so.
func canBegin(s string) bool {
	if n, _, _ := count(s); begun(s) > n {
		return false
	}
	return slices.ContainsFunc(allEnds, func(end string) bool { return textPattern.MatchString(s + end) })
}

// formFault is the place of the first fault of form; false, if there is none.
func formFault(s string) (int, bool) {
	n, at, is := count(s)
	place := sort.Search(len(s), func(i int) bool { return !canBegin(s[:i+1]) })
	if is && n > 65536 {
		return min(at, place), true
	}
	return place, place < len(s) || !textPattern.MatchString(s) || begun(s) != n
}

// modelParse is Parse, of short texts.
func modelParse(s string) (api.Tree, int, api.Errno) {
	if at, is := formFault(s); is {
		return api.Tree{}, at, api.ErrTree
	}
	lines := strings.Split(strings.TrimSuffix(s, "\n"), "\n")
	head := read(strings.TrimPrefix(lines[0], "tree "))
	t := api.Tree{States: head[0], Inputs: head[1], Root: head[3]}
	for _, line := range lines[1:] {
		state, is := strings.CutPrefix(line, "= ")
		if !is {
			t.Nodes = append(t.Nodes, branch(read(line)...))
			continue
		}
		if read(state)[0] >= 256 {
			return api.Tree{}, 0, api.ErrTree
		}
		t.Nodes = append(t.Nodes, leaf(uint8(read(state)[0])))
	}
	if !modelMayBe(t) {
		return api.Tree{}, 0, api.ErrTree
	}
	return t, 0, api.OK
}

// read are the numbers of a line.
func read(line string) []int {
	var list []int
	for _, s := range strings.Split(line, " ") {
		n, err := strconv.Atoi(s)
		if err != nil {
			panic(err)
		}
		list = append(list, n)
	}
	return list
}

// dice tells numbers that look as if they came by chance, but are the same each time.
type dice uint64

// below is a number from 0 to n - 1.
func (d *dice) below(n int) int {
	*d = *d*6364136223846793005 + 1442695040888963407
	return int(uint64(*d)>>33) % n
}

// order is an order of n numbers.
func (d *dice) order(n int) []int {
	list := make([]int, n)
	for i := range list {
		j := d.below(i + 1)
		list[i] = list[j]
		list[j] = i
	}
	return list
}

// sizes are numbers of states and inputs of functions that tests go through.
var sizes = []struct{ states, inputs int }{
	{1, 0}, {1, 1}, {1, 5}, {1, 16}, {2, 0}, {2, 1}, {2, 2}, {2, 3}, {2, 4}, {2, 6}, {2, 9}, {3, 0}, {3, 1}, {3, 2}, {3, 3}, {3, 5}, {4, 2}, {4, 4}, {5, 3}, {17, 2}, {256, 0}, {256, 1},
}

// function is a function of so many states and inputs that answers few states, so that many of its pieces are one.
func (d *dice) function(states, inputs int) function {
	some := 1 + d.below(min(states, 3))
	seldom := 1 + d.below(5)
	return functionOf(states, inputs, func([]uint8) uint8 {
		if d.below(seldom) > 0 {
			return 0
		}
		return uint8((d.below(some) + 1) * (states / some) % states)
	})
}

// loose is a tree of a function, hardly in its one form: with nodes that stand twice, and nodes to which one does not come from Root.
func (d *dice) loose(f function) api.Tree {
	t := api.Tree{States: f.states, Inputs: f.inputs}
	known := map[piece][]int{}
	var node func(p piece) int
	node = func(p piece) int {
		if list := known[p]; len(list) > 0 && d.below(2) == 0 {
			return list[d.below(len(list))]
		}
		made := api.Branch{}
		if p.level == 0 {
			made.State = p.answers[0]
		} else {
			made.Kids = make([]int, f.states)
			for _, i := range d.order(f.states) {
				made.Kids[i] = node(p.kids(f.states)[i])
			}
		}
		t.Nodes = append(t.Nodes, made)
		known[p] = append(known[p], len(t.Nodes)-1)
		n := len(t.Nodes) - 1
		if d.below(3) == 0 {
			t.Nodes = append(t.Nodes, d.loner(t))
		}
		return n
	}
	t.Root = node(piece{f.inputs, string(f.answers)})
	return t
}

// loner is a node that may stand at a tree's end.
func (d *dice) loner(t api.Tree) api.Branch {
	if d.below(2) == 0 {
		return leaf(uint8(d.below(t.States)))
	}
	return branch(slices.Repeat([]int{d.below(len(t.Nodes))}, t.States)...)
}

// chance goes through functions by chance, of all sizes.
func chance(seed dice, each int, see func(d *dice, f function)) {
	for _, size := range sizes {
		for range each {
			see(&seed, seed.function(size.states, size.inputs))
		}
	}
}

// is looks at a tree that is answered.
func is(t *testing.T, what string, got api.Tree, e api.Errno, want api.Tree) {
	t.Helper()
	if !same(got, want) || e != api.OK {
		t.Errorf("%s: %v, %d, not %v", what, brief(got), e, brief(want))
	}
}

// isNone looks at an error that is answered in the place of a tree.
func isNone(t *testing.T, what string, got api.Tree, e, want api.Errno) {
	t.Helper()
	if !zero(got) || e != want {
		t.Errorf("%s: %v, %d, not %d", what, brief(got), e, want)
	}
}

// mustOf is Of, of what has a tree.
func mustOf(t *testing.T, states, inputs int, f func([]uint8) uint8) api.Tree {
	t.Helper()
	made, e := tree.Of(states, inputs, f)
	if e != api.OK {
		t.Fatalf("Of(%d, %d, ..): %d", states, inputs, e)
	}
	return made
}
