package hood_test

import (
	"testing"

	"vivarium/api"
	"vivarium/hood"
)

// The models are tables of whole numbers, without maps of package iso.

var all = []uint8{api.Moore, api.Neumann, api.Hex}

// none has every number that is no neighbourhood.
func none() []uint8 {
	list := []uint8{0}
	for h := 4; h <= 255; h++ {
		list = append(list, uint8(h))
	}
	return list
}

// wrongParts has numbers that are no linear part.
var wrongParts = []int{-1 << 63, -1 << 32, -8, -7, -1, 8, 9, 15, 16, 1 << 32, 1<<32 + 1, 1<<63 - 1}

func at(x, y int) api.Point { return api.Point{X: x, Y: y} }

// table has the chapter's offsets.
var table = map[uint8][]api.Point{
	api.Moore:   {at(0, -1), at(1, -1), at(1, 0), at(1, 1), at(0, 1), at(-1, 1), at(-1, 0), at(-1, -1)},
	api.Neumann: {at(0, -1), at(1, 0), at(0, 1), at(-1, 0)},
	api.Hex:     {at(0, -1), at(1, 0), at(1, 1), at(0, 1), at(-1, 0), at(-1, -1)},
}

// linear has what the eight linear parts do to (x, y), by chapter 5.
var linear = []func(x, y int) api.Point{
	func(x, y int) api.Point { return at(x, y) },
	func(x, y int) api.Point { return at(-y, x) },
	func(x, y int) api.Point { return at(-x, -y) },
	func(x, y int) api.Point { return at(y, -x) },
	func(x, y int) api.Point { return at(x, -y) },
	func(x, y int) api.Point { return at(y, x) },
	func(x, y int) api.Point { return at(-x, y) },
	func(x, y int) api.Point { return at(-y, -x) },
}

// keeping has the parts that keep a neighbourhood, as the chapter tells them.
var keeping = map[uint8][]int{
	api.Moore:   {0, 1, 2, 3, 4, 5, 6, 7},
	api.Neumann: {0, 1, 2, 3, 4, 5, 6, 7},
	api.Hex:     {0, 2, 5, 7},
}

func mustOffsets(t *testing.T, h uint8) []api.Point {
	t.Helper()
	list, e := hood.Offsets(h)
	if e != api.OK {
		t.Fatalf("Offsets(%d): %d", h, e)
	}
	return list
}

func mustSize(t *testing.T, h uint8) int {
	t.Helper()
	n, e := hood.Size(h)
	if e != api.OK {
		t.Fatalf("Size(%d): %d", h, e)
	}
	return n
}

// mustPerm is Perm of a part that keeps the neighbourhood.
func mustPerm(t *testing.T, h uint8, part int) []int {
	t.Helper()
	list, keeps, e := hood.Perm(h, part)
	if !keeps || e != api.OK {
		t.Fatalf("Perm(%d, %d): %v, %d", h, part, keeps, e)
	}
	return list
}

func mustParts(t *testing.T, h uint8) []int {
	t.Helper()
	list, e := hood.Parts(h)
	if e != api.OK {
		t.Fatalf("Parts(%d): %d", h, e)
	}
	return list
}
