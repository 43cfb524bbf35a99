package shape_test

import (
	"slices"
	"testing"

	"vivarium/api"
	"vivarium/iso"
	"vivarium/shape"
)

// P24.10: what follows of the others.

// forms goes through shapes: all small ones, and some by chance.
func forms(yield func(api.Shape) bool) {
	for w := range grids(3, 2, 3) {
		if !yield(w.shape()) {
			return
		}
	}
	d := dice(81)
	for range 1500 {
		if !yield(d.world().shape()) {
			return
		}
	}
}

// TestLeastIsOneForAll: whatever a shape is moved and turned to has the same least one, and shapes that can't be moved and turned to one another have not.
func TestLeastIsOneForAll(t *testing.T) {
	d := dice(82)
	for s := range forms {
		least, _ := mustLeast(t, s)
		for k := range turns {
			to := mustMove(t, s, mapOf(k, d.below(1000)-500, d.below(1000)-500))
			if other, _ := mustLeast(t, to); !alike(other, least) {
				t.Errorf("Least of %v is %v, of %v %v", few(s), few(least), few(to), few(other))
			}
		}
	}
}

func TestLeastTellsApart(t *testing.T) {
	same, unlike := 0, 0
	for a := range grids(2, 2, 3) {
		for b := range grids(2, 2, 3) {
			want := false
			for k := range turns {
				want = want || a.turned(k, 0, 0).comesTo(b)
			}
			one, _ := mustLeast(t, a.shape())
			other, _ := mustLeast(t, b.shape())
			if alike(one, other) != want {
				t.Errorf("%v, %v: %v, %v", a, b, one, other)
			}
			if want {
				same++
			} else {
				unlike++
			}
		}
	}
	if same < 300 || unlike < 3000 {
		t.Error(same, unlike)
	}
}

// TestLeastOfLeast is it itself, and the map leads to it.
func TestLeastOfLeast(t *testing.T) {
	for s := range forms {
		least, m := mustLeast(t, s)
		leads(t, least, least, mapOf(0, 0, 0))
		moves(t, s, m, least)
		if !iso.Valid(m) {
			t.Errorf("Least(%v): no map: %v", few(s), m)
		}
		checks(t, least, api.OK)
		if r, has, e := shape.Box(least); r.X != 0 || r.Y != 0 || has != (len(s.Cells) > 0) || e != api.OK {
			t.Errorf("Box(%v) = %v", few(least), r)
		}
	}
}

// TestMoveByLeastsMapUpToMaxFar: wherever the shape lies.
func TestMoveByLeastsMapUpToMaxFar(t *testing.T) {
	for k := range turns {
		for _, x := range []int{-far + 2, 0, far - 2} {
			for _, y := range []int{-far + 2, 3, far - 2} {
				s := worldOf(glider().Cells...).turned(k, x, y).shape()
				least, m := mustLeast(t, s)
				moves(t, s, m, least)
			}
		}
	}
	for _, s := range []api.Shape{of(cell(-far, -far, 5), cell(0, 0, 4)), of(cell(far, 0, 5), cell(0, far, 4)), of(cell(0, -far, 1), cell(-far, 0, 1))} {
		least, m := mustLeast(t, s)
		moves(t, s, m, least)
	}
}

// TestPartsAreAGroup: of two of them both one behind the other, the one that does nothing, and what takes each back.
func TestPartsAreAGroup(t *testing.T) {
	for s := range forms {
		list := mustParts(t, s)
		if !slices.IsSorted(list) || len(list) == 0 || list[0] != 0 || 8%len(list) != 0 {
			t.Errorf("Parts(%v) = %v", few(s), list)
		}
		for _, k := range list {
			for _, l := range list {
				m, e := iso.Then(mapOf(k, 0, 0), mapOf(l, 0, 0))
				both, f := iso.Which(m)
				if e != api.OK || f != api.OK || !slices.Contains(list, both) {
					t.Errorf("Parts(%v) = %v: %d, %d behind %d", few(s), list, both, l, k)
				}
			}
			m, e := iso.Back(mapOf(k, 0, 0))
			back, f := iso.Which(m)
			if e != api.OK || f != api.OK || !slices.Contains(list, back) {
				t.Errorf("Parts(%v) = %v: %d, which takes back %d", few(s), list, back, k)
			}
		}
	}
}

// TestPartsAreThoseByWhichItIsAlike: Alike and Parts say the same.
func TestPartsAreThoseByWhichItIsAlike(t *testing.T) {
	for s := range forms {
		list := mustParts(t, s)
		for k := range turns {
			areAlike(t, s, mustMove(t, s, mapOf(k, 5, -9)), slices.Contains(list, k))
		}
	}
}

// TestPartsOfMovedShapes: a move changes nothing, and Least's shape has as many.
func TestPartsOfMovedShapes(t *testing.T) {
	for s := range forms {
		list := mustParts(t, s)
		hasParts(t, mustMove(t, s, mapOf(0, -12, 7)), list...)
		least, _ := mustLeast(t, s)
		if n := len(mustParts(t, least)); n != len(list) {
			t.Errorf("%v has %v, its least one %d", few(s), list, n)
		}
	}
}

func TestBoxOfTurnedShapes(t *testing.T) {
	for s := range forms {
		was, has, e := shape.Box(s)
		for k := range turns {
			r, is, f := shape.Box(mustMove(t, s, mapOf(k, 31, -8)))
			if k%2 == 1 {
				r.W, r.H = r.H, r.W
			}
			if r.W != was.W || r.H != was.H || is != has || e != api.OK || f != api.OK {
				t.Errorf("Box of %v: %v, turned by %d %v", few(s), was, k, r)
			}
		}
	}
}

func TestMixesOfTwo(t *testing.T) {
	d := dice(83)
	for range 5000 {
		a, b := d.world().shape(), d.world().shape()
		over := mustMix(t, a, b, api.MixOver)
		mixes(t, b, a, api.MixUnder, over)
		mixes(t, a, over, api.MixAnd, a)
		mixes(t, a, a, api.MixXor, of())
		mixes(t, a, a, api.MixOver, a)
		mixes(t, b, a, api.MixXor, mustMix(t, a, b, api.MixXor))
		mixes(t, mustMix(t, a, b, api.MixXor), mustMix(t, a, b, api.MixAnd), api.MixOver, mustMix(t, a, b, api.MixUnder))
		for _, how := range hows {
			checks(t, mustMix(t, a, b, how), api.OK)
		}
	}
}

// TestMixOfMovedShapes: both moved by one map, they mix to what they mixed to, moved.
func TestMixOfMovedShapes(t *testing.T) {
	d := dice(84)
	for range 2000 {
		a, b := d.world().shape(), d.world().shape()
		m := mapOf(d.below(8), d.below(100)-50, d.below(100)-50)
		for _, how := range hows {
			mixes(t, mustMove(t, a, m), mustMove(t, b, m), how, mustMove(t, mustMix(t, a, b, how), m))
		}
	}
}

func TestMoveBack(t *testing.T) {
	d := dice(85)
	for s := range forms {
		m := mapOf(d.below(8), d.below(1000)-500, d.below(1000)-500)
		back, e := iso.Back(m)
		if e != api.OK {
			t.Fatal(e)
		}
		to := mustMove(t, s, m)
		checks(t, to, api.OK)
		moves(t, to, back, s)
		next := mapOf(d.below(8), d.below(1000)-500, d.below(1000)-500)
		both, e := iso.Then(m, next)
		if e != api.OK {
			t.Fatal(e)
		}
		moves(t, to, next, mustMove(t, s, both))
	}
}
