package window

import (
	"vivarium/api"
	"vivarium/rule"
)

// mostNear is how many neighbours a cell has at most.
const mostNear = 8

// scene is the state of a cell, and behind it those of its neighbours in their order; 0 where it has fewer.
type scene [1 + mostNear]uint8

// asker asks the rule of a strip for the next states of cells. Rules are slow to ask: what was said is remembered.
type asker struct {
	rule   api.Rule
	closed bool    // a row's ends meet
	pane   []uint8 // three rows, each with a place more at both ends, so that all neighbours of a cell lie about it
	places []int   // where the cell and its neighbours stand in the pane, of column 0; of others so many places behind
	said   map[scene]uint8
}

// newAsker has asked nothing yet.
func newAsker(r api.Rule, t api.Topo) asker {
	number, _ := rule.Hood(r)
	return asker{rule: r, closed: t.Kind == api.Torus, pane: make([]uint8, 3*(t.W+2)), places: placesOf(number, t.W+2), said: map[scene]uint8{}}
}

// placesOf tells where a cell and its neighbours stand in a pane of rows of so many places.
func placesOf(hood uint8, wide int) []int {
	var places []int
	for _, number := range block(hood) {
		places = append(places, number/3*wide+number%3)
	}
	return places
}

// block are the numbers of the cell and of its neighbours in their order, of three times three places that are numbered row by row. It stands here once more because this layer does not stand on hood.
func block(hood uint8) []int {
	switch hood {
	case api.Neumann:
		return []int{4, 1, 5, 7, 3}
	case api.Hex:
		return []int{4, 1, 5, 8, 7, 3, 0}
	default:
		return []int{4, 1, 2, 5, 8, 7, 6, 3, 0}
	}
}

// later is the band one generation later, with a row more at each end.
func (a asker) later(b api.Band) api.Band {
	next := blank(b.W, b.At-1, len(b.Rows)+2)
	for i, beside := range threes(b) {
		a.lay(next.Rows[i], beside)
	}
	return next
}

// lay writes down what the row in the middle is one generation later.
func (a asker) lay(next []uint8, beside three) {
	a.show(beside)
	for x := range next {
		next[x] = a.next(a.look(x))
	}
}

// show lays three rows into the pane.
func (a asker) show(beside three) {
	w := len(beside[0])
	for i, row := range beside {
		line := a.pane[i*(w+2) : (i+1)*(w+2)]
		copy(line[1:], row)
		if a.closed { // else what lies beyond the ends stays 0
			line[0], line[w+1] = row[w-1], row[0]
		}
	}
}

// look is what lies about a cell of the pane's middle row.
func (a asker) look(x int) scene {
	var s scene
	for i, place := range a.places {
		s[i] = a.pane[x+place]
	}
	return s
}

// next is the rule's next state.
func (a asker) next(s scene) uint8 {
	state, was := a.said[s]
	if !was {
		state = a.ask(s)
		a.remember(s, state)
	}
	return state
}

// ask is what the rule says of states that it has.
func (a asker) ask(s scene) uint8 {
	state, _ := rule.Next(a.rule, s[0], s[1:len(a.places)])
	return state
}

// remember keeps what the rule said. A rule of many states may be asked of ever new ones: then all is forgotten now and again, so that it does not fill the memory.
func (a asker) remember(s scene, state uint8) {
	if len(a.said) >= api.MaxAsk {
		clear(a.said)
	}
	a.said[s] = state
}
