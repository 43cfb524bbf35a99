package shape_test

import (
	"testing"

	"vivarium/api"
	"vivarium/shape"
)

// The rows of the chapter's section Examples, in their order.

func TestExamplesOfMake(t *testing.T) {
	makes(t, []api.Cell{cell(1, 2, 1), cell(2, 1, 1), cell(9, 9, 0), cell(1, 0, 1), cell(0, 2, 1), cell(2, 2, 1)}, glider().Cells...)
	noMake(t, []api.Cell{cell(1, 0, 1), cell(1, 0, 2)}, api.ErrMany)
	noMake(t, []api.Cell{cell(far+1, 0, 1)}, api.ErrFar)
	makes(t, []api.Cell{cell(far+1, 0, 0)})
}

func TestExamplesOfBox(t *testing.T) {
	hasBox(t, glider(), api.Rect{X: 0, Y: 0, W: 3, H: 3})
	if r, has, e := shape.Box(of()); r != (api.Rect{}) || has || e != api.OK {
		t.Error(r, has, e)
	}
}

func TestExampleOfMove(t *testing.T) {
	moves(t, glider(), api.Iso{Turn: 1i, Move: 2}, of(cell(0, 0, 1), cell(0, 1, 1), cell(2, 1, 1), cell(0, 2, 1), cell(1, 2, 1)))
}

func TestExamplesOfParts(t *testing.T) {
	hasParts(t, glider(), 0)
	hasParts(t, of(cell(0, 0, 1)), 0, 1, 2, 3, 4, 5, 6, 7)
	hasParts(t, of(cell(0, 0, 1), cell(1, 0, 2)), 0, 4)
}

func TestExamplesOfMix(t *testing.T) {
	a, b := of(cell(0, 0, 1), cell(1, 0, 1)), of(cell(1, 0, 2), cell(2, 0, 2))
	mixes(t, a, b, api.MixOver, of(cell(0, 0, 1), cell(1, 0, 2), cell(2, 0, 2)))
	mixes(t, a, b, api.MixUnder, of(cell(0, 0, 1), cell(1, 0, 1), cell(2, 0, 2)))
	mixes(t, a, b, api.MixXor, of(cell(0, 0, 1), cell(2, 0, 2)))
	mixes(t, a, b, api.MixAnd, of(cell(1, 0, 1)))
}

func TestExampleOfLeast(t *testing.T) {
	leads(t, of(cell(5, 5, 2), cell(6, 5, 1)), of(cell(0, 0, 1), cell(1, 0, 2)), api.Iso{Turn: -1, Move: 6 + 5i})
}

func TestExamplesOfAlike(t *testing.T) {
	areAlike(t, glider(), mustMove(t, glider(), api.Iso{Turn: 1, Move: 7 - 3i}), true)
	areAlike(t, glider(), mustMove(t, glider(), mapOf(1, 0, 0)), false)
}
