package step

import (
	"vivarium/api"
	"vivarium/hood"
	"vivarium/rule"
)

// mostNear is how many neighbours a cell has at most.
const mostNear = 8

// scene is the state of a cell, and behind it those of its neighbours in their order; 0 where it has fewer.
type scene [1 + mostNear]uint8

// asker asks a rule, which may be, for the next states of cells.
type asker struct {
	rule api.Rule
	near []api.Point // the offsets of the neighbours
	said map[scene]uint8
}

// newAsker has asked nothing yet.
func newAsker(r api.Rule) asker {
	number, _ := rule.Hood(r)
	near, _ := hood.Offsets(number)
	return asker{rule: r, near: near, said: map[scene]uint8{}}
}

// over is the rule's next state of each cell of a frame. What was asked of other frames counts too: the rule is the same.
func (a asker) over(f api.Frame) func(x, y int) uint8 {
	return func(x, y int) uint8 {
		s := a.look(f, x, y)
		state, was := a.said[s]
		if !was {
			state = a.ask(s)
			a.remember(s, state)
		}
		return state
	}
}

// look is what lies about a cell of a frame.
func (a asker) look(f api.Frame, x, y int) scene {
	var s scene
	s[0] = stateAt(f, x, y)
	for i, d := range a.near {
		s[1+i] = stateAt(f, x+d.X, y+d.Y)
	}
	return s
}

// ask is what the rule says of states that it has.
func (a asker) ask(s scene) uint8 {
	state, _ := rule.Next(a.rule, s[0], s[1:1+len(a.near)])
	return state
}

// remember keeps what the rule said. A rule of many states may be asked of ever new ones: then all is forgotten now and again, so that it does not fill the memory.
func (a asker) remember(s scene, state uint8) {
	if len(a.said) == api.MaxAsk {
		clear(a.said)
	}
	a.said[s] = state
}

// stateAt is the state at a place of a frame, counted from the grid's first cell on, not from the ring's.
func stateAt(f api.Frame, x, y int) uint8 { return f.Cells[(y+1)*(f.W+2)+x+1] }
