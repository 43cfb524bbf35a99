package table

import (
	"slices"

	"vivarium/api"
)

// symmetry is what a symmetry is called, of which neighbourhoods it is, and what it does to the neighbours.
type symmetry struct {
	word  string
	of    uint8 // the bit number h: of the neighbourhood number h
	turns int   // how many turns bring the neighbours round; none of permute, which is no matter of turns
	flips bool  // each turn also with the neighbours the other way round
}

// Sets of neighbourhoods.
const (
	ofMoore  = 1 << api.Moore
	ofSquare = ofMoore | 1<<api.Neumann
	ofHex    = 1 << api.Hex
	ofAll    = ofSquare | ofHex
)

// symmetries has them by their numbers.
var symmetries = [...]symmetry{
	api.SymNone:     {word: "none", of: ofAll, turns: 1},
	api.SymRotate4:  {word: "rotate4", of: ofSquare, turns: 4},
	api.SymRotate8:  {word: "rotate8", of: ofMoore, turns: 8},
	api.SymReflect:  {word: "reflect_horizontal", of: ofSquare, turns: 1, flips: true},
	api.SymRotate4R: {word: "rotate4reflect", of: ofSquare, turns: 4, flips: true},
	api.SymRotate8R: {word: "rotate8reflect", of: ofMoore, turns: 8, flips: true},
	api.SymPermute:  {word: "permute", of: ofAll},
	api.SymRotate2:  {word: "rotate2", of: ofHex, turns: 2},
	api.SymRotate3:  {word: "rotate3", of: ofHex, turns: 3},
	api.SymRotate6:  {word: "rotate6", of: ofHex, turns: 6},
	api.SymRotate6R: {word: "rotate6reflect", of: ofHex, turns: 6, flips: true},
}

func isSymmetry(number uint8) bool { return int(number) < len(symmetries) }

// isFor tells whether it is a symmetry, and one of the neighbourhood.
func isFor(number, near uint8) bool {
	return isSymmetry(number) && symmetries[number].of&(1<<near) != 0
}

// turns are the orders of a symmetry that turns so many neighbours, rising.
func turns(number uint8, size int) [][]int {
	s := symmetries[number]
	var orders [][]int
	for turn := range s.turns {
		k := turn * size / s.turns
		orders = append(orders, order(size, func(i int) int { return (i + k) % size }))
		if s.flips {
			orders = append(orders, order(size, func(i int) int { return (k - i + size) % size }))
		}
	}
	slices.SortFunc(orders, slices.Compare[[]int])
	return orders
}

// order is the list of what stands in the place of each i.
func order(size int, stands func(i int) int) []int {
	list := make([]int, size)
	for i := range list {
		list[i] = stands(i)
	}
	return list
}

// permutations are all orders of so many neighbours, rising.
func permutations(size int) [][]int {
	first := order(size, func(i int) int { return i })
	orders := [][]int{first}
	for {
		next, is := following(orders[len(orders)-1])
		if !is {
			return orders
		}
		orders = append(orders, next)
	}
}

// following is the order that comes right behind another one, among all that rise; false, if that is the last.
func following(g []int) ([]int, bool) {
	at := len(g) - 2
	for at >= 0 && g[at] > g[at+1] {
		at--
	}
	if at < 0 {
		return nil, false
	}
	next := slices.Clone(g)
	tail := next[at+1:]
	slices.Reverse(tail) // it fell, so that it rises now
	above := slices.IndexFunc(tail, func(n int) bool { return n > g[at] })
	next[at], tail[above] = tail[above], next[at]
	return next, true
}
