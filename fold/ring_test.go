package fold_test

import (
	"testing"

	"vivarium/api"
)

// P6.2: Ring.

func TestRingIsTheModels(t *testing.T) {
	look := func(a api.Topo, p api.Point) {
		switch {
		case !isNear(a, p):
			noRing(t, a, p, api.ErrOut)
		case ofGrid(a, p):
			ring(t, a, p, p)
		case a.Kind == api.Plane:
			noRing(t, a, p, api.OK)
		case a.Kind == api.Sphere:
			ring(t, a, p, modelSphere(a, p))
		default:
			ring(t, a, p, modelCell(a, p))
		}
	}
	for _, a := range smallOnes(5) {
		for _, p := range window(6) {
			look(a, p)
		}
	}
	for _, a := range greatOnes() {
		for _, p := range placesAbout(a) {
			look(a, p)
		}
	}
}

// The corners of a Sphere's ring, and what lies about them.
func TestRingOfASphere(t *testing.T) {
	five := api.Topo{Kind: api.Sphere, W: 5, H: 5} // from -2 to 2
	ring(t, five, at(-3, -3), at(-2, -2))
	ring(t, five, at(3, 3), at(2, 2))
	ring(t, five, at(3, -3), at(-2, 2))
	ring(t, five, at(-3, 3), at(2, -2))
	for n := -2; n <= 2; n++ {
		ring(t, five, at(n, -3), at(-2, n))
		ring(t, five, at(-3, n), at(n, -2))
		ring(t, five, at(n, 3), at(2, n))
		ring(t, five, at(3, n), at(n, 2))
		for _, m := range []int{-4, 4, -far, far} {
			noRing(t, five, at(n, m), api.ErrOut)
			noRing(t, five, at(m, n), api.ErrOut)
		}
	}
	for _, p := range []api.Point{at(-4, -4), at(-4, -3), at(3, 4), at(4, -4), at(-3, 4)} {
		noRing(t, five, p, api.ErrOut)
	}
	great := api.Topo{Kind: api.Sphere, W: api.MaxSide, H: api.MaxSide}
	const low, high = -api.MaxSide / 2, api.MaxSide/2 - 1
	ring(t, great, at(7, low-1), at(low, 7))
	ring(t, great, at(high+1, low-1), at(low, high))
	ring(t, great, at(low-1, high+1), at(high, low))
	noRing(t, great, at(0, high+2), api.ErrOut)
	noRing(t, great, at(low-2, 0), api.ErrOut)
}

func TestRingOfAPlane(t *testing.T) {
	for _, p := range window(6) {
		switch { // X from -1 to 1, Y from -1 to 0
		case -1 <= p.X && p.X <= 1 && -1 <= p.Y && p.Y <= 0:
			ring(t, piece, p, p)
		case -2 <= p.X && p.X <= 2 && -2 <= p.Y && p.Y <= 1:
			noRing(t, piece, p, api.OK)
		default:
			noRing(t, piece, p, api.ErrOut)
		}
	}
}

// Along an endless side every number is between; across, there is the ring.
func TestRingOfEndlessSides(t *testing.T) {
	for _, n := range []int{-far, -1, 0, 1, far} {
		for _, kind := range []uint8{api.Plane, api.Torus} {
			ring(t, api.Topo{Kind: kind}, at(n, -n), at(n, -n))
			noRing(t, api.Topo{Kind: kind, W: 2}, at(2, n), api.ErrOut)
			noRing(t, api.Topo{Kind: kind, W: 2}, at(-3, n), api.ErrOut)
			noRing(t, api.Topo{Kind: kind, H: 2}, at(n, 2), api.ErrOut)
			noRing(t, api.Topo{Kind: kind, H: 2}, at(n, -3), api.ErrOut)
		}
		noRing(t, api.Topo{Kind: api.Plane, W: 2}, at(1, n), api.OK)
		noRing(t, api.Topo{Kind: api.Plane, W: 2}, at(-2, n), api.OK)
		ring(t, api.Topo{Kind: api.Torus, W: 2}, at(1, n), at(-1, n))
		ring(t, api.Topo{Kind: api.Torus, W: 2}, at(-2, n), at(0, n))
		ring(t, api.Topo{Kind: api.Torus, H: 2}, at(n, 1), at(n, -1))
		ring(t, api.Topo{Kind: api.Torus, H: 2}, at(n, -2), at(n, 0))
	}
}

func TestRingOfFarPlaces(t *testing.T) {
	for _, a := range append(smallOnes(2), greatOnes()...) {
		for _, p := range farPlaces() {
			noRing(t, a, p, api.ErrFar)
		}
	}
	noRing(t, torus, at(far, 0), api.ErrOut)
	noRing(t, torus, at(far+1, 0), api.ErrFar)
}
