package shape_test

import (
	"testing"

	"vivarium/api"
)

// P24.7: Least.

// leadsAsTheModel looks at Least of a world in which nothing is far.
func leadsAsTheModel(t *testing.T, w world) {
	t.Helper()
	want, k, move := w.least()
	leads(t, w.shape(), want, mapOf(k, move.X, move.Y))
}

// TestLeastOfSmallShapes: all of 3 times 3 with three states; of each part there is one that it alone leads home, or that it does as the least of several.
func TestLeastOfSmallShapes(t *testing.T) {
	by := [8]int{}
	for w := range grids(3, 3, 3) {
		leadsAsTheModel(t, w)
		_, k, _ := w.least()
		by[k]++
	}
	for k, n := range by {
		if n == 0 {
			t.Error("none by", k)
		}
	}
}

func TestLeastIsTheModels(t *testing.T) {
	d := dice(51)
	for range 5000 {
		leadsAsTheModel(t, d.world().turned(d.below(8), d.below(2000)-1000, d.below(2000)-1000))
	}
	for w := range grids(4, 3, 2) {
		leadsAsTheModel(t, w.turned(0, -3, 5))
	}
	for w := range grids(1, 5, 4) {
		leadsAsTheModel(t, w.turned(0, 4, -2))
	}
}

func TestLeastOfNothing(t *testing.T) {
	leads(t, of(), of(), mapOf(0, 0, 0))
	leads(t, api.Shape{}, of(), mapOf(0, 0, 0))
}

func TestLeastOfOneCell(t *testing.T) {
	for _, x := range []int{-far, -1, 0, 5, far} {
		for _, y := range []int{-far, -1, 0, 5, far} {
			leads(t, of(cell(x, y, 200)), of(cell(0, 0, 200)), mapOf(0, -x, -y)) // of all eight the least number
		}
	}
}

// TestLeastByYThenXThenState: what comes first in the order of shapes counts first.
func TestLeastByYThenXThenState(t *testing.T) {
	flat := of(cell(0, 0, 9), cell(1, 0, 9), cell(2, 0, 1))
	leads(t, of(cell(0, 0, 1), cell(0, 1, 9), cell(0, 2, 9)), of(cell(0, 0, 1), cell(1, 0, 9), cell(2, 0, 9)), mapOf(3, 0, 0)) // a lesser Y of the second cell
	leads(t, flat, of(cell(0, 0, 1), cell(1, 0, 9), cell(2, 0, 9)), mapOf(2, 2, 0))
	leads(t, of(cell(0, 0, 1), cell(2, 0, 1), cell(3, 0, 1)), of(cell(0, 0, 1), cell(1, 0, 1), cell(3, 0, 1)), mapOf(2, 3, 0)) // a lesser X
	leads(t, of(cell(0, 0, 1), cell(2, 0, 1), cell(3, 0, 9)), of(cell(0, 0, 1), cell(2, 0, 1), cell(3, 0, 9)), mapOf(0, 0, 0)) // the first cell's state is ahead of the second one's place
}

// TestLeastUpToMaxFar: the box may be MaxFar + 1 wide or high, wherever it lies, and no wider.
func TestLeastUpToMaxFar(t *testing.T) {
	for _, x := range []int{-far, -1, 0} {
		leads(t, of(cell(x, 7, 1), cell(x+far, 7, 2)), of(cell(0, 0, 1), cell(far, 0, 2)), mapOf(0, -x, -7))
		leads(t, of(cell(x, 7, 2), cell(x+far, 7, 1)), of(cell(0, 0, 1), cell(far, 0, 2)), mapOf(2, x+far, 7))
		leads(t, of(cell(7, x, 1), cell(7, x+far, 2)), of(cell(0, 0, 1), cell(far, 0, 2)), mapOf(3, -x, 7))
		leads(t, of(cell(7, x, 2), cell(7, x+far, 1)), of(cell(0, 0, 1), cell(far, 0, 2)), mapOf(1, x+far, -7))
		leads(t, of(cell(x, x, 1), cell(x+far, x+far, 2)), of(cell(0, 0, 1), cell(far, far, 2)), mapOf(0, -x, -x))
		if x+far+1 > far {
			continue
		}
		for _, more := range []int{1, 2, -x} {
			if x+far+more > far {
				continue
			}
			noLeast(t, of(cell(x, 7, 1), cell(x+far+more, 7, 2)), api.ErrFar)
			noLeast(t, of(cell(7, x, 1), cell(7, x+far+more, 2)), api.ErrFar)
			noLeast(t, of(cell(x, x, 1), cell(0, x+1, 1), cell(x+far+more, x+far, 2)), api.ErrFar)
			noLeast(t, of(cell(x, x, 1), cell(x+far, x+far+more, 2)), api.ErrFar)
		}
	}
	noLeast(t, of(cell(-far, -far, 1), cell(far, far, 1)), api.ErrFar)
	noLeast(t, of(cell(far, -far, 1), cell(-far, far, 1)), api.ErrFar)
}

func TestLeastOfAsManyAsMayBe(t *testing.T) {
	leadsAsTheModel(t, worldOf(square(128, 128)...).turned(5, 10, -900))
	leadsAsTheModel(t, worldOf(square(64, 256)...))
	leads(t, of(line(-9, 9, many, 1)...), of(line(0, 0, many, 1)...), mapOf(0, 9, -9))
}
