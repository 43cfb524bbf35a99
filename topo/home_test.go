package topo_test

import (
	"math"
	"testing"

	"vivarium/api"
	"vivarium/topo"
)

// mayBe goes through topologies that may be, of small sides and of the greatest ones.
func mayBe(yield func(api.Topo) bool) {
	for a := range everyTopo {
		if modelCheck(a) == api.OK && !yield(a) {
			return
		}
	}
}

func TestHomeIsHalfASideBack(t *testing.T) {
	backs := map[int]int{0: 0, 1: 0, 2: -1, 3: -1, 4: -2, api.MaxSide - 1: -32767, api.MaxSide: -32768}
	for a := range mayBe {
		want := api.Rect{X: backs[a.W], Y: backs[a.H], W: a.W, H: a.H}
		if r, e := topo.Home(a); r != want || e != api.OK {
			t.Errorf("Home(%v) = %v, %d, not %v", a, r, e, want)
		}
	}
}

func TestHasIsHome(t *testing.T) {
	numbers := []int{-api.MaxFar, -32769, -32768, -32767, -3, -2, -1, 0, 1, 2, 3, 32766, 32767, 32768, api.MaxFar}
	for a := range mayBe {
		r, _ := topo.Home(a)
		for _, x := range numbers {
			for _, y := range numbers {
				want := (a.W == 0 || r.X <= x && x <= r.X+r.W-1) && (a.H == 0 || r.Y <= y && y <= r.Y+r.H-1)
				if is, e := topo.Has(a, api.Point{X: x, Y: y}); is != want || e != api.OK {
					t.Fatalf("Has(%v, %d, %d) = %v, %d", a, x, y, is, e)
				}
			}
		}
	}
}

func TestHasOfPlacesThatAreFar(t *testing.T) {
	for _, a := range []api.Topo{{Kind: api.Plane}, {Kind: api.Torus, W: 3}, {Kind: api.Cross, W: 3, H: 4}, {Kind: api.Sphere, W: 1, H: 1}} {
		for _, near := range []int{-api.MaxFar, 0, api.MaxFar} {
			for _, far := range []int{math.MinInt, -api.MaxFar - 1, api.MaxFar + 1, math.MaxInt} {
				for _, p := range []api.Point{{X: near, Y: far}, {X: far, Y: near}, {X: far, Y: far}} {
					if is, e := topo.Has(a, p); is || e != api.ErrFar {
						t.Errorf("Has(%v, %v) = %v, %d", a, p, is, e)
					}
				}
			}
			if _, e := topo.Has(a, api.Point{X: near, Y: near}); e != api.OK {
				t.Errorf("Has(%v) at %d: %d", a, near, e)
			}
		}
	}
}

func TestEndless(t *testing.T) {
	for a := range mayBe {
		if w, h, e := topo.Endless(a); w != (a.W == 0) || h != (a.H == 0) || e != api.OK {
			t.Errorf("Endless(%v) = %v, %v, %d", a, w, h, e)
		}
	}
}

func TestCanonIsTheLeastShift(t *testing.T) {
	for a := range mayBe {
		want := a
		if a.Turn == api.TurnWide && a.Shift < 0 {
			want.Shift += a.W
		}
		if a.Turn == api.TurnHigh && a.Shift < 0 {
			want.Shift += a.H
		}
		if b, e := topo.Canon(a); b != want || e != api.OK {
			t.Errorf("Canon(%v) = %v, %d, not %v", a, b, e, want)
		}
	}
}

func TestAcrossExchangesTheSides(t *testing.T) {
	for a := range mayBe {
		want := api.Topo{Kind: a.Kind, W: a.H, H: a.W, Shift: a.Shift, Turn: []uint8{api.TurnNone, api.TurnHigh, api.TurnWide}[a.Turn]}
		if b, e := topo.Across(a); b != want || e != api.OK {
			t.Errorf("Across(%v) = %v, %d, not %v", a, b, e, want)
		}
	}
}
