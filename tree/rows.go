package tree

import (
	"iter"

	"vivarium/api"
)

// maxInputs is how many inputs a tree has at most.
const maxInputs = 16

// mayAsk tells whether a tree can have so many states and inputs.
func mayAsk(states, inputs int) bool {
	return 1 <= states && states <= api.MaxStates && 0 <= inputs && inputs <= maxInputs
}

// canGoThrough tells whether there are at most MaxAsk rows of inputs. It leaves off at the first product that is more: the last one may not fit an int.
func canGoThrough(states, inputs int) bool {
	count := 1
	for range inputs {
		count *= states
		if count > api.MaxAsk {
			return false
		}
	}
	return true
}

// rows goes through all rows of so many inputs, the last input changing fastest. It hands out the same memory again and again.
func rows(states, inputs int) iter.Seq[[]uint8] {
	return func(yield func([]uint8) bool) {
		row := make([]uint8, inputs)
		var from func(place int) bool
		from = func(place int) bool {
			if place == inputs {
				return yield(row)
			}
			for state := range states {
				row[place] = uint8(state)
				if !from(place + 1) {
					return false
				}
			}
			return true
		}
		from(0)
	}
}

// ask is what a function answers, row by row; false, if one answer is no state.
func ask(states, inputs int, f func(in []uint8) uint8) ([]uint8, bool) {
	var answers []uint8
	ok := true
	for in := range rows(states, inputs) {
		state := f(in)
		ok = ok && int(state) < states
		answers = append(answers, state)
	}
	return answers, ok
}
