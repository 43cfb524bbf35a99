package strip

import (
	"math/bits"

	"vivarium/api"
)

// world is all that lives on the strip: in one node, of a level above 0, whose lower half begins at the Y middle. Above and below it all is empty.
type world struct{ node, middle int }

// run is the band n generations later, one leap for each digit of n in twos. The short leaps come first: what a band does at its beginning is often the most, and between two leaps it can be forgotten.
func (s *Sea) run(b api.Band, n int) (api.Band, api.Errno) {
	s.limit = api.MaxWork // a Run that must be answered works out fewer cells of rows
	w := world{node: none, middle: b.At + len(b.Rows)/2}
	if !s.spend(&w.node, func() { w.node = s.begin(b) }) {
		return api.Band{}, api.ErrBudget
	}
	for j := range bits.Len(uint(n)) {
		if n>>j&1 == 1 && !s.spend(&w.node, func() { w.node = s.leap(w.node, j) }) {
			return api.Band{}, api.ErrBudget
		}
	}
	return s.band(w)
}

// begin is the least node that has the band's rows, half of them in each half.
func (s *Sea) begin(b api.Band) int {
	level := max(1, bits.Len(uint(len(b.Rows)-1)))
	return s.node(b.Rows, len(b.Rows)/2-1<<(level-1), level)
}

// node is that of the rows from this one on; where there are none they are empty.
func (s *Sea) node(rows [][]uint8, from, level int) int {
	if from+1<<level <= 0 || from >= len(rows) {
		return s.empty(level)
	}
	if level == 0 {
		return s.row(string(rows[from]))
	}
	return s.pair(s.node(rows, from, level-1), s.node(rows, from+1<<(level-1), level-1))
}

// empty is the node without a living cell.
func (s *Sea) empty(level int) int {
	id := s.row(string(make([]uint8, s.strip.W)))
	for range level {
		id = s.pair(id, id)
	}
	return id
}

// leap is the node with the same middle, and with all that lives, 2 to the power of j generations later.
func (s *Sea) leap(id, j int) int {
	id = s.tight(id)
	// The middle half of what is asked for has room for what lives, and for as many rows more as generations go by.
	for level := max(s.level(id), j+1) + 2; s.level(id) < level; {
		id = s.wide(id)
	}
	return s.middle(id, j)
}

// tight is the node without empty rows at its ends, as far as it keeps its middle.
func (s *Sea) tight(id int) int {
	for s.level(id) > 1 {
		up, low := s.quarters(id)
		if s.nodes[up.up].lives || s.nodes[low.low].lives {
			break
		}
		id = s.pair(up.low, low.up)
	}
	return id
}

// wide is the node with as many empty rows more, half of them at each end.
func (s *Sea) wide(id int) int {
	half, empty := s.nodes[id].half, s.empty(s.level(id)-1)
	return s.pair(s.pair(empty, half.up), s.pair(half.low, empty))
}

// band is the world as a band, if it is not too many rows.
func (s *Sea) band(w world) (api.Band, api.Errno) {
	b := api.Band{W: s.strip.W}
	if !s.nodes[w.node].lives {
		return b, api.OK
	}
	first, last := s.first(w.node), s.last(w.node)
	if b.W*(last-first+1) > api.MaxCells {
		return api.Band{}, api.ErrBudget
	}
	b.At = w.middle - 1<<(s.level(w.node)-1) + first
	b.Rows = make([][]uint8, last-first+1)
	s.lay(b.Rows, w.node, -first)
	return b, api.OK
}

// first is the number of the first row with a living cell, of a node that has one.
func (s *Sea) first(id int) int {
	n := s.nodes[id]
	switch {
	case n.level == 0:
		return 0
	case s.nodes[n.half.up].lives:
		return s.first(n.half.up)
	default:
		return 1<<(n.level-1) + s.first(n.half.low)
	}
}

// last is the number of the last one.
func (s *Sea) last(id int) int {
	n := s.nodes[id]
	switch {
	case n.level == 0:
		return 0
	case s.nodes[n.half.low].lives:
		return 1<<(n.level-1) + s.last(n.half.low)
	default:
		return s.last(n.half.up)
	}
}

// lay writes a node's rows into the list, from this place on, as far as they lie in it.
func (s *Sea) lay(list [][]uint8, id, from int) {
	n := s.nodes[id]
	if from+1<<n.level <= 0 || from >= len(list) {
		return
	}
	if n.level == 0 {
		list[from] = []uint8(n.row)
		return
	}
	s.lay(list, n.half.up, from)
	s.lay(list, n.half.low, from+1<<(n.level-1))
}
