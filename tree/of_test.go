package tree_test

import (
	"math"
	"slices"
	"testing"

	"vivarium/api"
	"vivarium/tree"
)

// P11.1: the tree of a function.

func TestOfIsTheOneForm(t *testing.T) {
	chance(1, 12, func(_ *dice, f function) {
		made, e := tree.Of(f.states, f.inputs, f.at)
		is(t, "Of", made, e, f.form())
		inOneForm(t, made)
	})
}

// TestOfAllFunctions: all functions of two states and up to four inputs, and of three states and up to two.
func TestOfAllFunctions(t *testing.T) {
	for _, size := range []struct{ states, inputs int }{{1, 3}, {2, 0}, {2, 1}, {2, 2}, {2, 3}, {3, 0}, {3, 1}, {3, 2}} {
		rows := int(power(size.states, size.inputs).Int64())
		for _, answers := range everyRow(size.states, rows) {
			f := function{size.states, size.inputs, answers}
			made, e := tree.Of(f.states, f.inputs, f.at)
			is(t, "Of", made, e, f.form())
			inOneForm(t, made)
		}
	}
}

// inOneForm looks at what the chapter's Words say of the one form.
func inOneForm(t *testing.T, made api.Tree) {
	t.Helper()
	for i, a := range made.Nodes {
		for j, b := range made.Nodes[:i] {
			if a.State == b.State && slices.Equal(a.Kids, b.Kids) {
				t.Errorf("%v: the nodes %d and %d are alike", brief(made), j, i)
			}
		}
	}
	met := make([]bool, len(made.Nodes))
	var ended []int
	var visit func(n int)
	visit = func(n int) {
		if met[n] {
			return
		}
		met[n] = true
		for _, kid := range made.Nodes[n].Kids {
			visit(kid)
		}
		ended = append(ended, n)
	}
	visit(made.Root)
	if len(ended) != len(made.Nodes) || !slices.IsSorted(ended) {
		t.Errorf("%v: the nodes end as %v", brief(made), ended)
	}
	if e := tree.Check(made); e != api.OK || made.Root != len(made.Nodes)-1 {
		t.Errorf("%v: %d", brief(made), e)
	}
}

func TestOfTellsArgFirst(t *testing.T) {
	functions := []func([]uint8) uint8{nil, always(0), always(255)}
	for _, states := range []int{math.MinInt, -256, -2, -1, 0, 257, 258, 512, 1 << 32, 1<<32 + 2, math.MaxInt} {
		for _, inputs := range []int{math.MinInt, -1, 0, 1, 2, 16, 17, math.MaxInt} {
			for _, f := range functions {
				made, e := tree.Of(states, inputs, f)
				isNone(t, "Of", made, e, api.ErrArg)
			}
		}
	}
	for _, states := range []int{1, 2, 255, 256} {
		for _, inputs := range []int{math.MinInt, -16, -1, 17, 18, 21, 1 << 32, math.MaxInt} {
			for _, f := range functions {
				made, e := tree.Of(states, inputs, f)
				isNone(t, "Of", made, e, api.ErrArg)
			}
		}
	}
}

func TestOfTellsNilBehindArgAndAheadOfBudget(t *testing.T) {
	for states := 1; states <= 256; states++ {
		for inputs := range 17 {
			made, e := tree.Of(states, inputs, nil)
			isNone(t, "Of", made, e, api.ErrNil)
		}
	}
}

// TestOfTellsBudget: all numbers of states and inputs whose rows are too many; and that nothing is asked then.
func TestOfTellsBudget(t *testing.T) {
	for states := 1; states <= 256; states++ {
		for inputs := range 17 {
			if power(states, inputs).Int64() <= 1<<20 && power(states, inputs).IsInt64() {
				continue
			}
			made, e := tree.Of(states, inputs, func([]uint8) uint8 {
				t.Fatalf("Of(%d, %d, ..) asks", states, inputs)
				return 0
			})
			isNone(t, "Of", made, e, api.ErrBudget)
		}
	}
}

// constant is the tree of a function that always answers a state.
func constant(states, inputs int, state uint8) api.Tree {
	t := api.Tree{States: states, Inputs: inputs, Root: inputs, Nodes: []api.Branch{leaf(state)}}
	for i := range inputs {
		t.Nodes = append(t.Nodes, branch(slices.Repeat([]int{i}, states)...))
	}
	return t
}

// TestOfAtMostRows: of each number of inputs the most states, whose rows are not too many, and one state more.
func TestOfAtMostRows(t *testing.T) {
	for inputs, most := range map[int]int{0: 256, 1: 256, 2: 256, 3: 101, 4: 32, 5: 16, 6: 10, 7: 7, 8: 5, 9: 4, 10: 4, 11: 3, 12: 3, 13: 2, 14: 2, 15: 2, 16: 2} {
		made, e := tree.Of(most, inputs, always(1))
		is(t, "Of", made, e, constant(most, inputs, 1))
		if made, e = tree.Of(most+1, inputs, always(1)); most < 256 {
			isNone(t, "Of", made, e, api.ErrBudget)
		} else {
			isNone(t, "Of", made, e, api.ErrArg)
		}
	}
	last := func(in []uint8) uint8 { return in[len(in)-1] }
	for _, size := range []struct{ states, inputs int }{{16, 5}, {32, 4}, {4, 10}, {101, 3}, {256, 2}, {2, 16}} {
		want := functionOf(size.states, size.inputs, last).form()
		made, e := tree.Of(size.states, size.inputs, last)
		is(t, "Of", made, e, want)
	}
}

func TestOfOneState(t *testing.T) {
	for inputs := range 17 {
		made, e := tree.Of(1, inputs, always(0))
		is(t, "Of", made, e, constant(1, inputs, 0))
		made, e = tree.Of(1, inputs, always(1))
		isNone(t, "Of", made, e, api.ErrState)
	}
}

func TestOfNoInputs(t *testing.T) {
	for states := 1; states <= 256; states++ {
		for answer := range 256 {
			made, e := tree.Of(states, 0, func(in []uint8) uint8 {
				if len(in) != 0 {
					t.Errorf("asked of %v", in)
				}
				return uint8(answer)
			})
			if answer < states {
				is(t, "Of", made, e, api.Tree{States: states, Nodes: []api.Branch{leaf(uint8(answer))}})
			} else {
				isNone(t, "Of", made, e, api.ErrState)
			}
		}
	}
}

// TestOfAsksAllRows: and no others, also where an answer is no state.
func TestOfAsksAllRows(t *testing.T) {
	for _, size := range sizes {
		for _, answer := range []uint8{0, 255} {
			seen := map[string]int{}
			tree.Of(size.states, size.inputs, func(in []uint8) uint8 {
				seen[string(in)]++
				return answer
			})
			rows := everyRow(size.states, size.inputs)
			for _, in := range rows {
				if seen[string(in)] == 0 {
					t.Errorf("Of(%d, %d, ..) does not ask of %v", size.states, size.inputs, in)
				}
			}
			if len(seen) != len(rows) {
				t.Errorf("Of(%d, %d, ..) asks of %d rows, not of %d", size.states, size.inputs, len(seen), len(rows))
			}
		}
	}
}

// TestOfTellsStateAtEachRow: a function that answers what is no state of one row alone.
func TestOfTellsStateAtEachRow(t *testing.T) {
	for _, size := range []struct{ states, inputs int }{{1, 2}, {2, 1}, {2, 4}, {3, 3}, {255, 1}} {
		for _, wrong := range everyRow(size.states, size.inputs) {
			for _, answer := range []int{size.states, 255} {
				made, e := tree.Of(size.states, size.inputs, func(in []uint8) uint8 {
					if slices.Equal(in, wrong) {
						return uint8(answer)
					}
					return 0
				})
				isNone(t, "Of", made, e, api.ErrState)
			}
		}
	}
}

// wide is a function of four states and ten inputs whose one form has so many nodes that answer the last two inputs, all that are possible above them, 256 that answer the last one, and four leaves.
func wide(pieces int) func([]uint8) uint8 {
	return func(in []uint8) uint8 {
		place := 0
		for _, state := range in[:8] {
			place = 4*place + int(state)
		}
		if place >= pieces { // again from the first ones on, but not in the same fours
			place += (pieces+1)%4 - pieces
		}
		if in[8] > 1 {
			return 0
		}
		return uint8(place >> (8*in[8] + 2*in[9]) & 3)
	}
}

const (
	aboveWide = 21845 // 1 + 4 + 16 + .. + 4^7
	belowWide = 256 + 4
)

func TestOfMostNodes(t *testing.T) {
	const pieces = api.MaxNodes - aboveWide - belowWide
	for _, less := range []int{2, 1, 0} {
		made, e := tree.Of(4, 10, wide(pieces-less))
		if len(made.Nodes) != api.MaxNodes-less || e != api.OK {
			t.Fatalf("%d nodes, %d, not %d nodes", len(made.Nodes), e, api.MaxNodes-less)
		}
		is(t, "Of", made, e, functionOf(4, 10, wide(pieces-less)).form())
		if e := tree.Check(made); e != api.OK {
			t.Error(e)
		}
	}
	for _, more := range []int{1, 2, 3, 1000} {
		if n := len(functionOf(4, 10, wide(pieces+more)).form().Nodes); n != api.MaxNodes+more {
			t.Fatal(n)
		}
		made, e := tree.Of(4, 10, wide(pieces+more))
		isNone(t, "Of", made, e, api.ErrBudget)
	}
}

func TestOfTellsBudgetOfFunctionsByChance(t *testing.T) {
	d := dice(2)
	for _, size := range []struct{ states, inputs int }{{4, 10}, {16, 5}, {10, 6}, {7, 7}} {
		made, e := tree.Of(size.states, size.inputs, func([]uint8) uint8 { return uint8(d.below(size.states)) })
		isNone(t, "Of", made, e, api.ErrBudget)
	}
}

// TestOfTellsStateAheadOfBudget: nodes are counted of a function of states alone, wherever the answer that is none stands.
func TestOfTellsStateAheadOfBudget(t *testing.T) {
	zeros, threes := make([]uint8, 10), slices.Repeat([]uint8{3}, 10)
	for _, wrong := range [][]uint8{zeros, threes, {2, 0, 0, 0, 0, 0, 0, 0, 0, 0}} {
		f := wide(60000)
		made, e := tree.Of(4, 10, func(in []uint8) uint8 {
			if slices.Equal(in, wrong) {
				return 4
			}
			return f(in)
		})
		isNone(t, "Of", made, e, api.ErrState)
	}
}

// TestOfIsTheSameEachTime: nothing hangs on the order of what is kept inside.
func TestOfIsTheSameEachTime(t *testing.T) {
	d := dice(3)
	f := d.function(3, 5)
	want := f.form()
	for range 50 {
		made, e := tree.Of(3, 5, f.at)
		is(t, "Of", made, e, want)
	}
}
