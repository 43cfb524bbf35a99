package tree_test

import (
	"slices"
	"testing"

	"vivarium/api"
	"vivarium/tree"
)

// P11.2: the function's answer. (That At tells ErrTree ahead of all else: see check_test.go.)

func answers(t *testing.T, k api.Tree, in []uint8, want uint8) {
	t.Helper()
	if s, e := tree.At(k, in); s != want || e != api.OK {
		t.Errorf("At(%v, %v) = %d, %d, not %d", brief(k), in, s, e, want)
	}
}

func answersNot(t *testing.T, k api.Tree, in []uint8, want api.Errno) {
	t.Helper()
	if s, e := tree.At(k, in); s != 0 || e != want {
		t.Errorf("At(%v, %v) = %d, %d, not %d", brief(k), in, s, e, want)
	}
}

func TestAtOfEveryRow(t *testing.T) {
	chance(6, 4, func(d *dice, f function) {
		k := d.loose(f)
		for _, in := range everyRow(f.states, f.inputs) {
			answers(t, k, in, f.at(in))
		}
	})
}

// TestAtAsksTheFirstStateAtRoot: a function that hangs on one input alone, of as many as there can be.
func TestAtAsksTheFirstStateAtRoot(t *testing.T) {
	const states, inputs = 256, 16
	for asked := range inputs {
		k := api.Tree{States: states, Inputs: inputs}
		for s := range states {
			k.Nodes = append(k.Nodes, leaf(uint8(s)))
		}
		below := func(level int) []int { // of each state the node below; one chain for each state
			var list []int
			for s := range states {
				list = append(list, level*states+s)
			}
			return list
		}
		for level := range inputs - asked - 1 {
			for _, n := range below(level) {
				k.Nodes = append(k.Nodes, branch(slices.Repeat([]int{n}, states)...))
			}
		}
		k.Nodes = append(k.Nodes, branch(below(inputs-asked-1)...))
		for range asked {
			k.Nodes = append(k.Nodes, branch(slices.Repeat([]int{len(k.Nodes) - 1}, states)...))
		}
		k.Root = len(k.Nodes) - 1
		for _, s := range []uint8{0, 1, 7, 128, 255} {
			in := slices.Repeat([]uint8{s ^ 85}, inputs)
			in[asked] = s
			answers(t, k, in, s)
		}
	}
}

func TestAtTellsArg(t *testing.T) {
	for inputs := range 17 {
		k := constant(2, inputs, 1)
		for n := range 20 {
			if n == inputs {
				answers(t, k, make([]uint8, n), 1)
				continue
			}
			answersNot(t, k, make([]uint8, n), api.ErrArg)
			answersNot(t, k, slices.Repeat([]uint8{2}, n), api.ErrArg)
		}
	}
	answers(t, constant(3, 0, 2), nil, 2)
	answers(t, constant(3, 0, 2), []uint8{}, 2)
	answersNot(t, constant(3, 1, 2), nil, api.ErrArg)
}

// TestAtTellsState: at each place, also where one does not look at the input.
func TestAtTellsState(t *testing.T) {
	for _, states := range []int{1, 2, 3, 255} {
		for inputs := 1; inputs <= 16; inputs++ {
			k := constant(states, inputs, 0)
			for place := range inputs {
				in := make([]uint8, inputs)
				in[place] = uint8(states - 1)
				answers(t, k, in, 0)
				in[place] = uint8(states)
				answersNot(t, k, in, api.ErrState)
				in[place] = 255
				answersNot(t, k, in, api.ErrState)
			}
		}
	}
	answers(t, constant(256, 2, 9), []uint8{255, 255}, 9)
}
