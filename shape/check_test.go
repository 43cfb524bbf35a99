package shape_test

import (
	"slices"
	"testing"

	"vivarium/api"
	"vivarium/shape"
)

// P24.2: Check, and what the other calls answer of a shape that may not be.

// refused looks at a shape that may not be: what Check tells of it, and what all others do.
func refused(t *testing.T, s api.Shape, want api.Errno) {
	t.Helper()
	checks(t, s, want)
	if r, has, e := shape.Box(s); r != (api.Rect{}) || has || e != api.ErrShape {
		t.Errorf("Box(%v) = %v, %v, %d", few(s), r, has, e)
	}
	for _, m := range []api.Iso{{Turn: 1}, {}, {Turn: 1, Move: far}} {
		noMove(t, s, m, api.ErrShape)
	}
	if list, e := shape.Parts(s); list != nil || e != api.ErrShape {
		t.Errorf("Parts(%v) = %v, %d", few(s), list, e)
	}
	noLeast(t, s, api.ErrShape)
	for _, o := range []api.Shape{of(), glider(), s} {
		for _, how := range []uint8{0, 1, 2, 3, 4, 5, 255} {
			noMix(t, s, o, how, api.ErrShape)
			noMix(t, o, s, how, api.ErrShape)
		}
		for _, pair := range [][2]api.Shape{{s, o}, {o, s}} {
			if is, e := shape.Alike(pair[0], pair[1]); is || e != api.ErrShape {
				t.Errorf("Alike(%v, %v) = %v, %d", few(pair[0]), few(pair[1]), is, e)
			}
		}
	}
}

func TestCheckOfShapesThatMayBe(t *testing.T) {
	for _, s := range []api.Shape{
		{}, of(), glider(),
		of(cell(0, 0, 255)), of(cell(-far, -far, 1), cell(far, -far, 1), cell(-far, far, 1), cell(far, far, 1)),
		of(cell(5, 0, 1), cell(-5, 1, 1)), // less by X, but further down
		of(line(0, 0, many, 1)...), of(square(128, 128)...),
	} {
		checks(t, s, api.OK)
	}
	for w := range grids(3, 3, 3) {
		checks(t, w.shape(), api.OK)
	}
}

// TestCheckOfAllPairs: of two cells the second one stands behind the first.
func TestCheckOfAllPairs(t *testing.T) {
	numbers := []int{-far, -1, 0, 1, far}
	for _, x := range numbers {
		for _, y := range numbers {
			for _, u := range numbers {
				for _, v := range numbers {
					s := of(cell(x, y, 1), cell(u, v, 2))
					if y < v || y == v && x < u {
						checks(t, s, api.OK)
					} else {
						refused(t, s, api.ErrShape)
					}
				}
			}
		}
	}
}

func TestCheckOfDeadCells(t *testing.T) {
	for i := range glider().Cells {
		s := glider()
		s.Cells[i].State = 0
		refused(t, s, api.ErrShape)
	}
	refused(t, of(cell(0, 0, 0)), api.ErrShape)
}

func TestCheckOfFarCells(t *testing.T) {
	for _, n := range farNumbers {
		for _, c := range []api.Cell{cell(n, 0, 1), cell(0, n, 1), cell(n, n, 1), cell(n, far, 2), cell(-far, n, 3)} {
			refused(t, of(c), api.ErrFar)
			c.State = 0
			refused(t, of(c), api.ErrFar) // its place is looked at first
			for i := range glider().Cells {
				s := glider()
				s.Cells[i] = c
				refused(t, s, api.ErrFar)
			}
		}
	}
}

func TestCheckOfTooMany(t *testing.T) {
	refused(t, of(line(0, 0, many+1, 1)...), api.ErrMany)
	refused(t, of(line(-5, 0, 2*many, 1)...), api.ErrMany)
	refused(t, of(make([]api.Cell, many+1)...), api.ErrMany) // ahead of what is wrong with them
	refused(t, of(append([]api.Cell{cell(far+1, 0, 1)}, line(0, 0, many, 1)...)...), api.ErrMany)
	refused(t, of(make([]api.Cell, many)...), api.ErrShape)
}

// TestCheckTellsTheFirstFault: each fault at each place, and each other one behind it.
func TestCheckTellsTheFirstFault(t *testing.T) {
	cells := slices.Concat(line(-3, -2, 3, 1), line(0, 0, 3, 2), line(-4, 5, 3, 255))
	spoils := []struct {
		spoil func(c api.Cell) api.Cell
		e     api.Errno
	}{
		{func(c api.Cell) api.Cell { c.State = 0; return c }, api.ErrShape},
		{func(c api.Cell) api.Cell { return cell(c.X, -9, 1) }, api.ErrShape},
		{func(c api.Cell) api.Cell { return cell(far+1, c.Y, 1) }, api.ErrFar},
		{func(c api.Cell) api.Cell { return cell(c.X, -far-1, 0) }, api.ErrFar},
	}
	for i := 1; i < len(cells); i++ {
		for _, first := range spoils {
			s := of(slices.Clone(cells)...)
			s.Cells[i] = first.spoil(s.Cells[i])
			refused(t, s, first.e)
			for j := i + 1; j < len(cells); j++ {
				for _, second := range spoils {
					two := of(slices.Clone(s.Cells)...)
					two.Cells[j] = second.spoil(two.Cells[j])
					checks(t, two, first.e)
				}
			}
		}
	}
}

// TestCheckAtTheLastOfAsManyAsMayBe looks at the end of the greatest shape.
func TestCheckAtTheLastOfAsManyAsMayBe(t *testing.T) {
	for c, want := range map[api.Cell]api.Errno{
		cell(many-1, 0, 0): api.ErrShape, cell(many-2, 0, 1): api.ErrShape, cell(far+1, 0, 1): api.ErrFar, cell(0, 1, 1): api.OK, cell(0, -1, 1): api.ErrShape,
	} {
		s := of(line(0, 0, many, 1)...)
		s.Cells[many-1] = c
		checks(t, s, want)
	}
}
