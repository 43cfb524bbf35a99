package strip

import "strings"

// none stands where there is no node, or no number.
const none = -1

// halves are the two nodes that another one is made of.
type halves struct{ up, low int }

// node is one of a level above 0 by its halves, or of the level 0 by its row.
type node struct {
	level  int
	half   halves
	row    string // a byte is a state
	lives  bool   // has a living cell
	kept   bool
	number int // by which the sea tells of it; none, if it does not
}

// later is a node and the generations after which its middle is asked: 2 to the power of j.
type later struct{ node, j int }

// store has nodes, each once, by places in a list; halves come ahead of what they make. What is forgotten in between moves the others to other places, but not to other numbers.
type store struct {
	most    int // nodes at one time
	kept    int
	nodes   []node
	rows    map[string]int // where the nodes of the level 0 are
	pairs   map[halves]int // where all others are
	middles map[later]int  // where what was worked out is
	told    []int          // where the nodes are by their numbers
}

func newStore(most int) store {
	return store{most: most, rows: map[string]int{}, pairs: map[halves]int{}, middles: map[later]int{}}
}

func (s *store) level(id int) int { return s.nodes[id].level }

// quarters are the halves of a node's halves.
func (s *store) quarters(id int) (up, low halves) {
	half := s.nodes[id].half
	return s.nodes[half.up].half, s.nodes[half.low].half
}

// row is the node of one row.
func (s *store) row(cells string) int {
	if id, is := s.rows[cells]; is {
		return id
	}
	return s.add(node{row: cells, lives: strings.Trim(cells, "\x00") != ""})
}

// pair is the node of two of one level.
func (s *store) pair(up, low int) int {
	half := halves{up, low}
	if id, is := s.pairs[half]; is {
		return id
	}
	lives := s.nodes[up].lives || s.nodes[low].lives
	return s.add(node{level: s.level(up) + 1, half: half, lives: lives})
}

// add adds a node that the store does not have, if there is room.
func (s *store) add(n node) int {
	if len(s.nodes) >= s.most {
		panic(spent{})
	}
	n.number = none
	return s.put(n)
}

func (s *store) put(n node) int {
	id := len(s.nodes)
	s.nodes = append(s.nodes, n)
	if n.level == 0 {
		s.rows[n.row] = id
	} else {
		s.pairs[n.half] = id
	}
	return id
}

// tell is the number of a node, which it has from now on.
func (s *store) tell(id int) int {
	s.keep(id)
	n := &s.nodes[id]
	if n.number == none {
		n.number = len(s.told)
		s.told = append(s.told, id)
	}
	return n.number
}

// keep keeps a node and all its parts.
func (s *store) keep(id int) {
	n := &s.nodes[id]
	if n.kept {
		return
	}
	n.kept = true
	s.kept++
	if n.level > 0 {
		s.keep(n.half.up)
		s.keep(n.half.low)
	}
}

// forget leaves the nodes that are kept, and one more with its parts, unless it is none. It answers the place of that one.
func (s *store) forget(held int) int {
	stays := make([]bool, len(s.nodes))
	s.hold(stays, held)
	old := *s
	*s = newStore(old.most)
	s.kept, s.told = old.kept, old.told
	place := make([]int, len(old.nodes)) // of those that stay
	for id, n := range old.nodes {
		if n.kept || stays[id] {
			if n.level > 0 {
				n.half = halves{place[n.half.up], place[n.half.low]}
			}
			stays[id], place[id] = true, s.put(n)
		}
	}
	for ask, id := range old.middles {
		if stays[ask.node] && stays[id] {
			s.middles[later{place[ask.node], ask.j}] = place[id]
		}
	}
	for number, id := range s.told {
		s.told[number] = place[id]
	}
	if held == none {
		return none
	}
	return place[held]
}

// hold marks a node and all its parts.
func (s *store) hold(marks []bool, id int) {
	if id == none || marks[id] {
		return
	}
	marks[id] = true
	if n := s.nodes[id]; n.level > 0 {
		s.hold(marks, n.half.up)
		s.hold(marks, n.half.low)
	}
}
