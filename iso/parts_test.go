package iso_test

import (
	"math"
	"testing"

	"vivarium/api"
	"vivarium/iso"
)

// P5.1 and P5.4: Valid, Part, Which, Shift, Times.

func TestValidOfMapsThatMayBe(t *testing.T) {
	for _, p := range everyPlan(-far, -far+1, -7, -1, 0, 1, 7, far-1, far) {
		for _, m := range []api.Iso{p.iso(), signedMap(p.iso())} {
			if !iso.Valid(m) {
				t.Error("not Valid", m)
			}
		}
	}
}

func TestValidOfMapsThatMayNotBe(t *testing.T) {
	for _, m := range wrongMaps() {
		if iso.Valid(m) {
			t.Error("Valid", m)
		}
	}
}

// Each part of Move is looked at by itself: one far number is not made up for by the other.
func TestValidLooksAtBothParts(t *testing.T) {
	for _, x := range []float64{far + 1, -far - 1} {
		for _, move := range []complex128{complex(x, 0), complex(0, x), complex(x, -x), complex(-x, x)} {
			if iso.Valid(api.Iso{Turn: 1, Move: move}) {
				t.Error("Valid", move)
			}
		}
	}
}

func TestPartIsTheTables(t *testing.T) {
	for k, l := range eight {
		m, e := iso.Part(k)
		isMap(t, "Part", m, e, api.Iso{Turn: l.turn, Flip: l.flip})
		if !iso.Valid(m) {
			t.Error("not Valid", m)
		}
		for _, p := range everyPlace(-far, -5, 0, 1, 2, far) {
			at(t, m, p, l.plan.at(p))
		}
	}
}

func TestPartAndTimesKnowEightNumbers(t *testing.T) {
	for _, k := range []int{math.MinInt, math.MinInt + 1, -9, -8, -7, -4, -1, 8, 9, 11, 12, 15, 16, 256, 1 << 32, 1<<32 + 1, math.MaxInt} {
		m, e := iso.Part(k)
		noMap(t, "Part", m, e, api.ErrArg)
		if n, e := iso.Times(k); n != 0 || e != api.ErrArg {
			t.Errorf("Times(%d) = %d, %d", k, n, e)
		}
	}
}

func TestWhichIsTheNumberOfTheLinearPart(t *testing.T) {
	for _, p := range everyPlan(-far, -3, 0, 2, far) {
		for _, m := range []api.Iso{p.iso(), signedMap(p.iso())} {
			if k, e := iso.Which(m); k != p.which() || e != api.OK {
				t.Errorf("Which(%v) = %d, %d, not %d", m, k, e, p.which())
			}
		}
	}
	for k := range eight {
		if w, e := iso.Which(mustPart(t, k)); w != k || e != api.OK {
			t.Errorf("Which(Part(%d)) = %d, %d", k, w, e)
		}
	}
}

func TestWhichOfMapsThatMayNotBe(t *testing.T) {
	for _, m := range wrongMaps() {
		if k, e := iso.Which(m); k != 0 || e != api.ErrIso {
			t.Errorf("Which(%v) = %d, %d", m, k, e)
		}
	}
}

func TestShiftMoves(t *testing.T) {
	for _, p := range everyPlace(-far, -far+1, -4, -1, 0, 1, 3, far-1, far) {
		m, e := iso.Shift(p.X, p.Y)
		isMap(t, "Shift", m, e, api.Iso{Turn: 1, Move: complex(float64(p.X), float64(p.Y))})
		if !iso.Valid(m) {
			t.Error("not Valid", m)
		}
		at(t, m, api.Point{}, p)
	}
}

func TestShiftOfFarNumbers(t *testing.T) {
	for _, x := range []int{far + 1, -far - 1, 2 * far, -2 * far, 1 << 53, 1<<53 + 1, math.MaxInt, math.MinInt, math.MinInt + 1} {
		for _, p := range []api.Point{{X: x}, {Y: x}, {X: x, Y: x}, {X: x, Y: far}, {X: -far, Y: x}} {
			m, e := iso.Shift(p.X, p.Y)
			noMap(t, "Shift", m, e, api.ErrFar)
		}
	}
}

// The least number, held against the model: so often, and not less often, is each place its own again.
func TestTimesIsTheLeast(t *testing.T) {
	for k, l := range eight {
		n, e := iso.Times(k)
		if n < 1 || e != api.OK {
			t.Fatalf("Times(%d) = %d, %d", k, n, e)
		}
		all := eight[0].plan
		for i := 1; i <= n; i++ {
			all = all.then(l.plan)
			if (all == eight[0].plan) != (i == n) {
				t.Errorf("Times(%d) = %d, but %d times is %v", k, n, i, all)
			}
		}
	}
}
