package linear

import (
	"cmp"
	"slices"

	"vivarium/api"
)

// A set is places, each with nothing more than that it is there.
type set map[api.Point]struct{}

// setOf has each place of a list, one that stands there twice too.
func setOf(places []api.Point) set {
	s := make(set, len(places))
	for _, p := range places {
		s[p] = struct{}{}
	}
	return s
}

// flip puts a place in, or takes it out again where it is there already: what is there an even number of times counts as if it were not.
func (s set) flip(p api.Point) {
	had := len(s)
	s[p] = struct{}{}
	if len(s) == had {
		delete(s, p)
	}
}

// spread is where the places come to, each by each of the moves.
func (s set) spread(moves []api.Point) set {
	spread := make(set, len(s))
	for p := range s {
		for _, m := range moves {
			spread.flip(api.Point{X: p.X + m.X, Y: p.Y + m.Y})
		}
	}
	return spread
}

// list has the places by rows, of one row from the left.
func (s set) list() []api.Point {
	places := make([]api.Point, 0, len(s))
	for p := range s {
		places = append(places, p)
	}
	sortByRows(places)
	return places
}

func sortByRows(places []api.Point) {
	slices.SortFunc(places, func(a, b api.Point) int {
		return cmp.Or(cmp.Compare(a.Y, b.Y), cmp.Compare(a.X, b.X))
	})
}
