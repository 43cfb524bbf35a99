package tiles

import (
	"vivarium/api"
	"vivarium/ring"
	"vivarium/rule"
)

// mostNear is how many neighbours a cell has at most.
const mostNear = 8

// scene is the state of a cell, and behind it those of its neighbours in their order; 0 where it has fewer.
type scene [1 + mostNear]uint8

// asker asks a rule for the next states of cells. Rules are slow to ask: what was said is remembered. Each worker has one of its own, so that they need not wait for each other.
type asker struct {
	rule api.Rule
	near []int // how far behind a cell each neighbour stands in the grid's list
	said map[scene]uint8
	most int // how much is remembered
}

// hire are the askers of the workers for which there are tiles.
func (b *Board) hire() []asker {
	hood, _ := rule.Hood(b.rule)
	near := nearOf(hood, b.grid.W)
	crew := make([]asker, min(b.workers, b.Tiles()))
	for i := range crew {
		crew[i] = asker{rule: b.rule, near: near, said: map[scene]uint8{}, most: api.MaxAsk / len(crew)}
	}
	return crew
}

// nearOf tells how far behind a cell of a frame of w columns each of its neighbours stands. This layer does not stand on hood: a frame of one cell, whose places have their numbers as states, tells which of them are neighbours.
func nearOf(hood uint8, w int) []int {
	numbered := api.Frame{W: 1, H: 1, Cells: []uint8{0, 1, 2, 3, 4, 5, 6, 7, 8}}
	around, _ := ring.Around(numbered, hood, 0, 0)
	near := make([]int, len(around))
	for i, number := range around {
		x, y := int(number)%3-1, int(number)/3-1
		near[i] = y*(w+2) + x
	}
	return near
}

// changed are the cells of an area that have another state one generation later, with that state.
func (a *asker) changed(g grid, area api.Rect) []api.Cell {
	var list []api.Cell
	for y := area.Y; y < area.Y+area.H; y++ {
		for x := area.X; x < area.X+area.W; x++ {
			s := a.look(g.Cells, g.index(x, y))
			if next := a.next(s); next != s[0] {
				list = append(list, api.Cell{X: x, Y: y, State: next})
			}
		}
	}
	return list
}

// look is what lies about a cell that stands at this place of the grid's list.
func (a *asker) look(cells []uint8, at int) scene {
	var s scene
	s[0] = cells[at]
	for i, far := range a.near {
		s[1+i] = cells[at+far]
	}
	return s
}

// next is the rule's next state.
func (a *asker) next(s scene) uint8 {
	state, was := a.said[s]
	if !was {
		state = a.ask(s)
		a.remember(s, state)
	}
	return state
}

// ask is what the rule says of states that it has.
func (a *asker) ask(s scene) uint8 {
	state, _ := rule.Next(a.rule, s[0], s[1:1+len(a.near)])
	return state
}

// remember keeps what the rule said. A rule of many states may be asked of ever new ones: then all is forgotten now and again, so that it does not fill the memory.
func (a *asker) remember(s scene, state uint8) {
	if len(a.said) >= a.most {
		clear(a.said)
	}
	a.said[s] = state
}
