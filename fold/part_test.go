package fold_test

import (
	"testing"

	"vivarium/api"
)

// P6.4: Part.

func TestPartIsTheModels(t *testing.T) {
	met := map[int]int{}
	look := func(a api.Topo, p api.Point) {
		switch {
		case isGlued(a):
			want := modelPart(a, p)
			part(t, a, p, want, api.OK)
			met[want]++
		case ofGrid(a, p):
			part(t, a, p, 0, api.OK)
		default:
			part(t, a, p, 0, api.ErrOut)
		}
	}
	for _, a := range smallOnes(4) {
		for _, p := range window(10) {
			look(a, p)
		}
	}
	for _, a := range greatOnes() {
		for _, p := range placesAbout(a) {
			look(a, p)
		}
	}
	for _, k := range []int{0, 2, 4, 6} {
		if met[k] < 1000 {
			t.Errorf("the part %d was met %d times", k, met[k])
		}
	}
}

// A tile's part tile by tile, on both sides of nought.
func TestPartOfTiles(t *testing.T) {
	wide := api.Topo{Kind: api.Klein, W: 4, H: 3, Turn: api.TurnWide, Shift: -2}
	high := api.Topo{Kind: api.Klein, W: 4, H: 3, Turn: api.TurnHigh, Shift: 2}
	ways := api.Topo{Kind: api.Cross, W: 4, H: 3}
	plain := api.Topo{Kind: api.Torus, W: 4, H: 3, Turn: api.TurnHigh, Shift: 1}
	for i := -3; i <= 3; i++ {
		for j := -3; j <= 3; j++ {
			for u := range 4 {
				for v := range 3 {
					p := at(i*4+u-2, j*3+v-1)
					oddI, oddJ := i*i%2, j*j%2
					part(t, plain, p, 0, api.OK)
					part(t, wide, p, 6*oddJ, api.OK)
					part(t, high, p, 4*oddI, api.OK)
					part(t, ways, p, [2][2]int{{0, 6}, {4, 2}}[oddI][oddJ], api.OK)
				}
			}
		}
	}
}

func TestPartOfFarPlaces(t *testing.T) {
	for _, a := range append(smallOnes(2), greatOnes()...) {
		for _, p := range farPlaces() {
			part(t, a, p, 0, api.ErrFar)
		}
	}
	part(t, piece, at(-far, 0), 0, api.ErrOut)
	part(t, piece, at(-far-1, 0), 0, api.ErrFar)
	one := api.Topo{Kind: api.Cross, W: 1, H: 1}
	part(t, one, at(far, far-1), 6, api.OK)
	part(t, one, at(1-far, -far), 4, api.OK)
	part(t, one, at(1-far, far-1), 2, api.OK)
	part(t, one, at(-far, far), 0, api.OK)
}
