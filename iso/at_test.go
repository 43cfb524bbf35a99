package iso_test

import (
	"math"
	"testing"

	"vivarium/api"
)

// P5.2: At.

func TestAtIsTheModels(t *testing.T) {
	numbers := []int{-far, -far + 1, -1000003, -2, -1, 0, 1, 5, far - 1, far}
	gone, stayed := 0, 0
	for _, p := range everyPlan(numbers...) {
		m := p.iso()
		for _, q := range everyPlace(numbers...) {
			want := p.at(q)
			if !isNear(want) {
				notAt(t, m, q, api.ErrFar)
				gone++
				continue
			}
			at(t, m, q, want)
			at(t, signedMap(m), q, want)
			stayed++
		}
	}
	if gone < 1000 || stayed < 1000 {
		t.Error(gone, stayed)
	}
}

// Each corner of what is near, taken to just there and to one more.
func TestAtGoesUpToMaxFar(t *testing.T) {
	for k, l := range eight {
		m := api.Iso{Turn: l.turn, Flip: l.flip}
		for _, corner := range []api.Point{{X: far, Y: far}, {X: far, Y: -far}, {X: -far, Y: far}, {X: -far, Y: -far}} {
			to := l.plan.at(corner)
			at(t, m, corner, to)
			inward := planOf(k, -sign(to.X), -sign(to.Y))
			at(t, inward.iso(), corner, inward.at(corner))
			notAt(t, planOf(k, sign(to.X), 0).iso(), corner, api.ErrFar)
			notAt(t, planOf(k, 0, sign(to.Y)).iso(), corner, api.ErrFar)
		}
	}
}

func sign(n int) int {
	if n < 0 {
		return -1
	}
	return 1
}

// The greatest sums on the way are 2^41: nothing of them is lost.
func TestAtComesBackFromFar(t *testing.T) {
	at(t, api.Iso{Turn: 1, Move: complex(-far, far)}, api.Point{X: far, Y: -far + 1}, api.Point{X: 0, Y: 1})
	at(t, api.Iso{Turn: -1, Move: complex(far, -far)}, api.Point{X: far - 1, Y: -far}, api.Point{X: 1, Y: 0})
	notAt(t, api.Iso{Turn: 1, Move: complex(far, 0)}, api.Point{X: far}, api.ErrFar)
	notAt(t, api.Iso{Turn: 1i, Move: complex(0, -far)}, api.Point{X: -far}, api.ErrFar)
}

func TestAtOfFarPlaces(t *testing.T) {
	for _, x := range []int{far + 1, -far - 1, 1 << 53, 1<<53 + 1, -1<<53 - 1, math.MaxInt, math.MinInt} {
		for _, p := range []api.Point{{X: x}, {Y: x}, {X: x, Y: x}, {X: x, Y: -far}, {X: far, Y: x}} {
			for k := range eight {
				for _, move := range []int{-far, -1, 0, 1, far} {
					notAt(t, planOf(k, move, move).iso(), p, api.ErrFar) // wherever m takes it
				}
			}
		}
	}
}

func TestAtTellsTheMapFirst(t *testing.T) {
	for _, m := range wrongMaps() {
		for _, p := range []api.Point{{}, {X: 2, Y: 3}, {X: far + 1}, {Y: math.MinInt}} {
			notAt(t, m, p, api.ErrIso)
		}
	}
}
