package strip

import (
	"math"

	"vivarium/api"
)

// spent is what is panicked with when there is no room for one more node. What asked for it is left as it is, however deep inside.
type spent struct{}

// isSpent tells whether the budget was spent. Whatever else was thrown goes on.
func isSpent(thrown any) bool {
	if _, ours := thrown.(spent); !ours {
		panic(thrown)
	}
	return true
}

// afford does work that makes nodes; false: there was no room for them.
func afford(work func()) (done bool) {
	defer func() {
		if thrown := recover(); thrown != nil {
			done = !isSpent(thrown)
		}
	}()
	work()
	return true
}

// spend does work that makes nodes, once more without those that are nobody's business, if there is no room; false: there is none even so. The held node stays; the work must not rely on where nodes were.
func (s *Sea) spend(held *int, work func()) bool {
	if afford(work) {
		return true
	}
	*held, s.worked = s.forget(*held), 0
	return afford(work)
}

// answer is the number of the node that a call makes.
func (s *Sea) answer(find func() int) (int, api.Errno) {
	id, held := none, none
	if !s.spend(&held, func() { id = find() }) {
		return 0, api.ErrBudget
	}
	return s.tell(id), api.OK
}

// limitOf is the limit of Middle of a node of this level. The nodes are the budget, and where there are enough of them nothing else counts; but where Middle may refuse, it does not fill the memory with wide rows.
func (s *Sea) limitOf(level, j int) int {
	const highest = 20 // above it no sea has enough
	if level <= highest && s.most-s.kept >= (level+2)<<level*(1<<j+1) {
		return math.MaxInt
	}
	return api.MaxWork
}
