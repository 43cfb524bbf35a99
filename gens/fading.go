package gens

import (
	"vivarium/api"
	"vivarium/life"
)

const (
	dead  = 0
	lives = 1
)

// births is a rule of births and stays.
type births api.Life

// next is what the living and the dead become; ErrArg of a count that its neighbourhood does not have.
func (b births) next(state uint8, living int) (uint8, api.Errno) {
	return life.Next(api.Life(b), state, living)
}

// fading is a rule of births and stays whose dead fade.
type fading struct {
	births
	states int
}

// becomes is the state behind one of the rule's.
func (f fading) becomes(state uint8, living int) (uint8, api.Errno) {
	then, e := f.next(min(state, lives), living) // asked of a fading cell too: its count has to be one
	switch {
	case e != api.OK:
		return 0, e
	case state == dead || state == lives && then == lives:
		return then, api.OK
	}
	return f.older(state), api.OK
}

// older is the state behind one that fades on, or that begins to.
func (f fading) older(state uint8) uint8 {
	if int(state)+1 == f.states {
		return dead
	}
	return state + 1
}
