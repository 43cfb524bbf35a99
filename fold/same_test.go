package fold_test

import (
	"testing"

	"vivarium/api"
	"vivarium/fold"
)

// P6.5: Same; and the errors that all calls share.

func TestSameIsTheModels(t *testing.T) {
	are, not := 0, 0
	for _, a := range gluedOnes(3) {
		for _, p := range window(4) {
			for _, q := range window(4) {
				want := modelCell(a, p) == modelCell(a, q)
				same(t, a, p, q, want, api.OK)
				if want {
					are++
				} else {
					not++
				}
			}
		}
	}
	if are < 10000 || not < 10000 {
		t.Error(are, not)
	}
}

func TestSameOfAPlaneAndASphere(t *testing.T) {
	for _, a := range smallOnes(3) {
		if isGlued(a) {
			continue
		}
		for _, p := range window(3) {
			for _, q := range window(3) {
				if ofGrid(a, p) && ofGrid(a, q) {
					same(t, a, p, q, p == q, api.OK)
				} else {
					same(t, a, p, q, false, api.ErrOut) // even of a place and itself
				}
			}
		}
	}
}

func TestSameOfPlacesManyTilesAway(t *testing.T) {
	for _, a := range greatOnes() {
		if !isGlued(a) {
			continue
		}
		for _, n := range numbersAbout(a.W) {
			p, q := at(n, 5-n/2), at(-n, n)
			same(t, a, p, q, modelCell(a, p) == modelCell(a, q), api.OK)
			same(t, a, p, modelCell(a, p), true, api.OK)
			same(t, a, modelCell(a, q), q, true, api.OK)
		}
	}
}

func TestSameTellsFarAheadOfOut(t *testing.T) {
	for _, far := range farPlaces() {
		for _, a := range []api.Topo{torus, klein, cross, sphere, piece, {Kind: api.Plane, W: 3}} {
			for _, p := range []api.Point{at(0, 0), at(9, 0), at(-api.MaxFar, api.MaxFar)} {
				same(t, a, p, far, false, api.ErrFar)
				same(t, a, far, p, false, api.ErrFar)
			}
			same(t, a, far, far, false, api.ErrFar)
		}
	}
	for _, a := range []api.Topo{sphere, piece} {
		same(t, a, at(0, 0), at(9, 0), false, api.ErrOut)
		same(t, a, at(9, 0), at(0, 0), false, api.ErrOut)
		same(t, a, at(9, 0), at(9, 0), false, api.ErrOut)
		same(t, a, at(0, far), at(0, 0), false, api.ErrOut)
	}
	same(t, sphere, at(-1, -2), at(-1, -1), false, api.ErrOut) // in the ring, where Cell knows no cell
}

func TestAllCallsTellTheTopologyFirst(t *testing.T) {
	places := append(farPlaces(), at(0, 0), at(9, 9), at(far, -far))
	for _, a := range wrongOnes() {
		for _, p := range places {
			noCell(t, a, p, api.ErrTopo)
			noRing(t, a, p, api.ErrTopo)
			part(t, a, p, 0, api.ErrTopo)
			same(t, a, p, at(0, 0), false, api.ErrTopo)
			same(t, a, at(0, 0), p, false, api.ErrTopo)
			same(t, a, p, p, false, api.ErrTopo)
		}
		if ms, e := fold.Glue(a); len(ms) != 0 || e != api.ErrTopo {
			t.Errorf("Glue(%v) = %v, %d", a, ms, e)
		}
	}
}
