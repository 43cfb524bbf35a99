package shape_test

import (
	"testing"

	"vivarium/api"
)

// P24.8: Alike.

// TestAlikeOfAllPairs: of worlds of 3 times 2 with two states and of 2 times 2 with three, the second one moved.
func TestAlikeOfAllPairs(t *testing.T) {
	seen := [2]int{}
	for _, all := range []func(func(world) bool){grids(3, 2, 2), grids(2, 2, 3)} {
		for a := range all {
			for b := range all {
				want := a.comesTo(b)
				areAlike(t, a.shape(), b.shape(), want)
				areAlike(t, a.shape(), b.turned(0, -17, 1000).shape(), want)
				if want {
					seen[1]++
				} else {
					seen[0]++
				}
			}
		}
	}
	if seen[0] < 1000 || seen[1] < 145 {
		t.Error(seen)
	}
}

// TestAlikeOfTurnedShapes: a shape is alike to itself turned just where it keeps that part.
func TestAlikeOfTurnedShapes(t *testing.T) {
	d := dice(61)
	for range 1000 {
		w := d.world()
		kept := [8]bool{}
		for _, k := range w.parts() {
			kept[k] = true
		}
		for k, is := range kept {
			areAlike(t, w.shape(), w.turned(k, d.below(99), d.below(99)).shape(), is)
		}
	}
}

// TestAlikeStateByState: another state, a cell more, a cell elsewhere.
func TestAlikeStateByState(t *testing.T) {
	for i := range glider().Cells {
		s := glider()
		s.Cells[i].State = 2
		areAlike(t, s, glider(), false)
		areAlike(t, s, worldOf(s.Cells...).turned(0, 3, 3).shape(), true)
		less := of(append(glider().Cells[:i], glider().Cells[i+1:]...)...)
		areAlike(t, less, glider(), false)
		areAlike(t, less, less, true)
	}
	areAlike(t, of(cell(0, 0, 1), cell(2, 0, 1), cell(3, 0, 1)), of(cell(0, 0, 1), cell(1, 0, 1), cell(3, 0, 1)), false)
	areAlike(t, of(cell(0, 0, 1), cell(2, 2, 1)), of(cell(2, 0, 1), cell(0, 2, 1)), false)
}

func TestAlikeOfNothing(t *testing.T) {
	areAlike(t, of(), api.Shape{}, true)
	areAlike(t, of(), of(cell(0, 0, 1)), false)
	areAlike(t, of(), glider(), false)
}

// TestAlikeAcrossThePlane: a move may be further than a map goes, and a shape wider than MaxFar.
func TestAlikeAcrossThePlane(t *testing.T) {
	areAlike(t, of(cell(-far, -far, 3)), of(cell(far, far, 3)), true)
	areAlike(t, of(cell(-far, -far, 3)), of(cell(far, far, 4)), false)
	areAlike(t, of(line(-far, far, 5, 3)...), of(line(far-4, -far, 5, 3)...), true)
	wide := of(cell(-far, -far, 1), cell(far, far, 2))
	areAlike(t, wide, wide, true)
	areAlike(t, wide, of(cell(-far, -far, 1), cell(far-1, far, 2)), false)
	areAlike(t, of(cell(-far, 0, 1), cell(far-1, 0, 2)), of(cell(-far+1, -far, 1), cell(far, -far, 2)), true)
	areAlike(t, of(cell(-far, 0, 1), cell(far-1, 0, 2)), of(cell(-far, -far, 1), cell(far, -far, 2)), false)
}

func TestAlikeOfAsManyAsMayBe(t *testing.T) {
	all := square(128, 128)
	to := worldOf(all...).turned(0, 5, -far).shape()
	areAlike(t, of(all...), to, true)
	to.Cells[many-1].State++
	areAlike(t, of(all...), to, false)
}
