package strip

import "vivarium/api"

// mostLevel is the level of the highest nodes of which Pair tells.
const mostLevel = 44

// lacks tells whether a sea is none.
func (s *Sea) lacks() bool { return s == nil || s.rows == nil }

// has tells whether a number is that of a node.
func (s *Sea) has(id int) bool { return 0 <= id && id < len(s.told) }

// checkRow tells what is wrong with a row.
func (s *Sea) checkRow(cells []uint8) api.Errno {
	if len(cells) != s.strip.W {
		return api.ErrBand
	}
	for _, state := range cells {
		if int(state) >= s.states {
			return api.ErrState
		}
	}
	return api.OK
}

// checkPair tells why two nodes can't be put together.
func (s *Sea) checkPair(a, b int) api.Errno {
	if !s.has(a) || !s.has(b) {
		return api.ErrNode
	}
	level := s.level(s.told[a])
	switch {
	case level != s.level(s.told[b]):
		return api.ErrUnlike
	case level >= mostLevel:
		return api.ErrMany
	}
	return api.OK
}

// checkRun tells why a band, trimmed, can't be run.
func checkRun(b api.Band, n int) api.Errno {
	switch {
	case n < 0:
		return api.ErrArg
	case n > api.MaxGen:
		return api.ErrFar
	case len(b.Rows) > 0 && (isFar(b.At-n) || isFar(b.At+len(b.Rows)-1+n)):
		return api.ErrFar
	case b.W*len(b.Rows) > api.MaxCells:
		return api.ErrBudget
	}
	return api.OK
}

func isFar(y int) bool { return y < -api.MaxFar || y > api.MaxFar }
