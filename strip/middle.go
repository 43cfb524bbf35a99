package strip

// middle is the node of the middle half of a node's rows, 2 to the power of j generations later.
func (s *Sea) middle(id, j int) int {
	ask := later{id, j}
	if found, was := s.middles[ask]; was {
		return found
	}
	found := s.workOut(id, j)
	s.middles[ask] = found
	return found
}

// workOut is what middle remembers.
func (s *Sea) workOut(id, j int) int {
	n := s.nodes[id]
	up, low := s.quarters(id)
	if n.level == 2 {
		return s.pair(s.next(up.up, up.low, low.up), s.next(up.low, low.up, low.low))
	}
	between := s.pair(up.low, low.up)
	if j < n.level-2 {
		return s.inner(s.middle(n.half.up, j), s.middle(between, j), s.middle(n.half.low, j))
	}
	// So many generations are more than the parts can be asked for at once: half of them, and half once more.
	first, second, third := s.middle(n.half.up, j-1), s.middle(between, j-1), s.middle(n.half.low, j-1)
	return s.pair(s.middle(s.pair(first, second), j-1), s.middle(s.pair(second, third), j-1))
}

// inner is three nodes, one below the other, without the outer halves of the first and the last.
func (s *Sea) inner(first, second, third int) int {
	upper := s.pair(s.nodes[first].half.low, s.nodes[second].half.up)
	return s.pair(upper, s.pair(s.nodes[second].half.low, s.nodes[third].half.up))
}

// next is the node of a row one generation later, between two others.
func (s *Sea) next(above, here, below int) int {
	if s.worked += s.strip.W; s.worked > s.limit {
		panic(spent{})
	}
	return s.row(s.press.next(three{s.nodes[above].row, s.nodes[here].row, s.nodes[below].row}))
}
