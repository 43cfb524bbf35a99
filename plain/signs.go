package plain

import "vivarium/api"

// The signs of the dead and of the first living state; those of the others follow one another from dots on, each at its state's number.
const (
	dead  = '.'
	alive = 'O'
	dots  = 10240
)

// The signs of two places, one over the other.
const (
	neither = ' '
	upper   = 9600
	lower   = 9604
	both    = 9608
)

// Sign is the rune of a state.
func Sign(state uint8) rune {
	switch state {
	case 0:
		return dead
	case 1:
		return alive
	}
	return dots + rune(state)
}

// Of is the state as which a rune is read.
func Of(sign rune) (uint8, bool) {
	switch sign {
	case dead, ' ', '_':
		return 0, true
	case alive, 'o', '*', '#':
		return 1, true
	}
	if sign < dots+2 || sign >= dots+api.MaxStates {
		return 0, false
	}
	return uint8(sign - dots), true
}

// half tells of two places which of them live.
func half(first, second bool) rune {
	switch {
	case first && second:
		return both
	case first:
		return upper
	case second:
		return lower
	}
	return neither
}
