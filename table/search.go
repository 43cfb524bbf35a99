package table

import (
	"slices"

	"vivarium/api"
)

// search looks for the first of all orders in which a row fits, term by term, without going through them all: what did not come out well once is not tried again.
type search struct {
	scene
	row   api.Trans
	order []int
	lost  map[spot]struct{}
}

// spot is where a search stands: which neighbours it has given to terms (the bit number j: the neighbour number j), and the states of the variables that stand further on. What can come of it hangs on nothing else.
type spot struct {
	given uint8
	bound bound
}

func (s *spot) has(j int) bool { return s.given&(1<<j) != 0 }

func (s *spot) give(j int) { s.given |= 1 << j }

// firstOrder is the first of all orders in which the row fits; false, if it fits in none.
func (s scene) firstOrder(row api.Trans) ([]int, bool) {
	var begin spot
	if !s.meets(&begin.bound, row.Centre, s.centre) {
		return nil, false
	}
	q := search{scene: s, row: row, order: make([]int, len(row.Around)), lost: map[spot]struct{}{}}
	if !q.goesOn(0, begin) {
		return nil, false
	}
	return q.order, true
}

// goesOn tells whether the terms from number i on can have neighbours, and puts the first that do into the order.
func (q *search) goesOn(i int, here spot) bool {
	if i == len(q.order) {
		return true
	}
	if _, is := q.lost[here]; is {
		return false
	}
	for j := range q.around {
		if here.has(j) || q.wasTried(j, here) {
			continue
		}
		next := here
		if q.put(i, j, &next) && q.goesOn(i+1, next) {
			q.order[i] = j
			return true
		}
	}
	q.lost[here] = struct{}{}
	return false
}

// wasTried tells whether a neighbour ahead of this one, that was not given away either, has the same state: then nothing else can come of this one.
func (q *search) wasTried(j int, here spot) bool {
	for ahead, state := range q.around[:j] {
		if state == q.around[j] && !here.has(ahead) {
			return true
		}
	}
	return false
}

// put gives the neighbour number j to the term number i; false, if that can't be. A variable that does not stand further on is free again, so that spots that lead to the same are the same.
func (q *search) put(i, j int, to *spot) bool {
	term := q.row.Around[i]
	if !q.meets(&to.bound, term, q.around[j]) {
		return false
	}
	to.give(j)
	if term.Var != noVar && !slices.Contains(q.row.Around[i+1:], term) {
		to.bound.free(term.Var)
	}
	return true
}
