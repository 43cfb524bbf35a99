package fold_test

import (
	"slices"
	"testing"

	"vivarium/api"
	"vivarium/fold"
)

// The rows of the chapter's section Examples, in their order.

var (
	torus  = api.Topo{Kind: api.Torus, W: 3, H: 2}
	klein  = api.Topo{Kind: api.Klein, W: 3, H: 2, Turn: api.TurnWide}
	cross  = api.Topo{Kind: api.Cross, W: 3, H: 2}
	sphere = api.Topo{Kind: api.Sphere, W: 2, H: 2}
	piece  = api.Topo{Kind: api.Plane, W: 3, H: 2}
)

// cell looks at Cell of a place that is a cell.
func cell(t *testing.T, a api.Topo, p, want api.Point) {
	t.Helper()
	if q, e := fold.Cell(a, p); q != want || e != api.OK {
		t.Errorf("Cell(%v, %v) = %v, %d, not %v", a, p, q, e, want)
	}
}

// noCell looks at Cell's error.
func noCell(t *testing.T, a api.Topo, p api.Point, want api.Errno) {
	t.Helper()
	if q, e := fold.Cell(a, p); q != (api.Point{}) || e != want {
		t.Errorf("Cell(%v, %v) = %v, %d, not %d", a, p, q, e, want)
	}
}

// ring looks at Ring of a place that is a cell.
func ring(t *testing.T, a api.Topo, p, want api.Point) {
	t.Helper()
	if q, is, e := fold.Ring(a, p); q != want || !is || e != api.OK {
		t.Errorf("Ring(%v, %v) = %v, %v, %d, not %v", a, p, q, is, e, want)
	}
}

// noRing looks at Ring of a place that is no cell, with an error or without one.
func noRing(t *testing.T, a api.Topo, p api.Point, want api.Errno) {
	t.Helper()
	if q, is, e := fold.Ring(a, p); q != (api.Point{}) || is || e != want {
		t.Errorf("Ring(%v, %v) = %v, %v, %d, not %d", a, p, q, is, e, want)
	}
}

func glue(t *testing.T, a api.Topo, want ...api.Iso) {
	t.Helper()
	if maps, e := fold.Glue(a); !slices.Equal(maps, want) || e != api.OK {
		t.Errorf("Glue(%v) = %v, %d, not %v", a, maps, e, want)
	}
}

// part looks at Part's answer or, beside the part 0, its error.
func part(t *testing.T, a api.Topo, p api.Point, want int, f api.Errno) {
	t.Helper()
	if k, e := fold.Part(a, p); k != want || e != f {
		t.Errorf("Part(%v, %v) = %d, %d, not %d, %d", a, p, k, e, want, f)
	}
}

// same looks at Same's answer or, beside a false, its error.
func same(t *testing.T, a api.Topo, p, q api.Point, want bool, f api.Errno) {
	t.Helper()
	if is, e := fold.Same(a, p, q); is != want || e != f {
		t.Errorf("Same(%v, %v, %v) = %v, %d, not %v, %d", a, p, q, is, e, want, f)
	}
}

func TestExamplesOfCell(t *testing.T) {
	cell(t, torus, at(2, 1), at(-1, -1))

	turned := api.Topo{Kind: api.Torus, W: 3, H: 2, Turn: api.TurnWide, Shift: 1}
	cell(t, turned, at(0, 1), at(-1, -1))
	cell(t, turned, at(0, -2), at(1, 0))

	cell(t, klein, at(-1, 1), at(1, -1))
	cell(t, klein, at(0, 1), at(0, -1))
	cell(t, klein, at(-1, 3), at(-1, -1))
	cell(t, klein, at(2, 1), at(1, -1))

	moved := api.Topo{Kind: api.Klein, W: 3, H: 2, Turn: api.TurnWide, Shift: 1}
	cell(t, moved, at(-1, 1), at(-1, -1))
	cell(t, moved, at(0, -2), at(1, 0))

	cell(t, cross, at(2, -1), at(-1, 0))
	cell(t, cross, at(-1, 1), at(1, -1))
	cell(t, cross, at(2, 1), at(1, 0))
}

func TestExamplesOfAPlaneAndASphere(t *testing.T) {
	noCell(t, piece, at(2, 0), api.ErrOut)
	noRing(t, piece, at(2, 0), api.OK)
	noRing(t, piece, at(2, 1), api.OK)
	noRing(t, piece, at(3, 0), api.ErrOut)

	ring(t, sphere, at(-1, -2), at(-1, -1))
	ring(t, sphere, at(0, -2), at(-1, 0))
	ring(t, sphere, at(-2, 0), at(0, -1))
	ring(t, sphere, at(1, 0), at(0, 0))
	ring(t, sphere, at(1, -2), at(-1, 0))
	ring(t, sphere, at(1, 1), at(0, 0))
}

func TestExamplesOfGlue(t *testing.T) {
	glue(t, torus, api.Iso{Turn: 1, Move: 3}, api.Iso{Turn: 1, Move: 2i})
	glue(t, klein, api.Iso{Turn: 1, Move: 3}, api.Iso{Turn: -1, Flip: true, Move: 2i})
	glue(t, cross, api.Iso{Turn: 1, Flip: true, Move: 3 - 1i}, api.Iso{Turn: -1, Flip: true, Move: 2i})
}

func TestExamplesOfPart(t *testing.T) {
	part(t, klein, at(0, 0), 0, api.OK)
	part(t, klein, at(0, 1), 6, api.OK)
	part(t, klein, at(5, 3), 0, api.OK)
	part(t, cross, at(2, 0), 4, api.OK)
	part(t, cross, at(0, 1), 6, api.OK)
	part(t, cross, at(2, 1), 2, api.OK)
}

func TestExamplesOfEndlessSides(t *testing.T) {
	plane := api.Topo{Kind: api.Plane, H: 2}
	cell(t, plane, at(5, 0), at(5, 0))
	noRing(t, plane, at(5, 1), api.OK)
	noRing(t, plane, at(5, 2), api.ErrOut)

	tube := api.Topo{Kind: api.Torus, H: 2}
	cell(t, tube, at(9, 3), at(9, -1))
	glue(t, tube, api.Iso{Turn: 1, Move: 2i})
	part(t, tube, at(9, 3), 0, api.OK)
}

// The page's examples of small grids.
func TestExamplesOfNeighbours(t *testing.T) {
	one := api.Topo{Kind: api.Torus, W: 1, H: 1}
	counts(t, one, at(0, 0), map[api.Point]int{at(0, 0): 8})
	one.Kind = api.Sphere
	counts(t, one, at(0, 0), map[api.Point]int{at(0, 0): 8})
	one.Kind = api.Plane
	counts(t, one, at(0, 0), map[api.Point]int{})

	post := api.Topo{Kind: api.Torus, W: 1, H: 3}
	counts(t, post, at(0, -1), map[api.Point]int{at(0, -1): 2, at(0, 0): 3, at(0, 1): 3})
	counts(t, post, at(0, 0), map[api.Point]int{at(0, -1): 3, at(0, 0): 2, at(0, 1): 3})

	two := api.Topo{Kind: api.Cross, W: 2, H: 2}
	ring(t, two, at(-2, -2), at(-1, -1)) // (-1, -1) in home numbers is (0, 0) itself
}
