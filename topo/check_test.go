package topo_test

import (
	"math"
	"testing"

	"vivarium/api"
	"vivarium/topo"
)

// checks looks at Check of one topology.
func checks(t *testing.T, a api.Topo, want api.Errno) {
	t.Helper()
	if e := topo.Check(a); e != want {
		t.Errorf("Check(%v) = %d, not %d", a, e, want)
	}
}

func TestCheckIsTheModels(t *testing.T) {
	met := map[api.Errno]int{}
	for a := range everyTopo {
		want := modelCheck(a)
		met[want]++
		checks(t, a, want)
	}
	for _, e := range []api.Errno{api.OK, api.ErrKind, api.ErrSide, api.ErrEndless, api.ErrTwist, api.ErrShift} {
		if met[e] < 50 {
			t.Errorf("%d was looked at %d times", e, met[e])
		}
	}
}

func TestCheckKnowsFiveKinds(t *testing.T) {
	for kind := range 256 {
		want := api.ErrKind
		switch uint8(kind) {
		case api.Plane, api.Torus, api.Cross, api.Sphere:
			want = api.OK
		case api.Klein:
			want = api.ErrTwist
		}
		checks(t, api.Topo{Kind: uint8(kind), W: 3, H: 3}, want)
	}
}

func TestCheckKnowsThreeTurns(t *testing.T) {
	for turn := range 256 {
		torus, klein := api.ErrTwist, api.ErrTwist
		switch uint8(turn) {
		case api.TurnNone:
			torus = api.ErrShift // none without a Turn
		case api.TurnWide, api.TurnHigh:
			torus, klein = api.OK, api.OK
		}
		checks(t, api.Topo{Kind: api.Torus, W: 3, H: 3, Turn: uint8(turn), Shift: 1}, torus)
		checks(t, api.Topo{Kind: api.Klein, W: 3, H: 3, Turn: uint8(turn), Shift: 1}, klein)
		for _, kind := range []uint8{api.Plane, api.Cross, api.Sphere} {
			want := api.ErrTwist
			if turn == 0 {
				want = api.OK
			}
			checks(t, api.Topo{Kind: kind, W: 3, H: 3, Turn: uint8(turn)}, want)
		}
	}
}

func TestCheckOfSides(t *testing.T) {
	for _, kind := range kinds {
		turn := api.TurnNone
		if kind == api.Klein {
			turn = api.TurnWide
		}
		for length, want := range map[int]api.Errno{1: api.OK, api.MaxSide: api.OK, api.MaxSide + 1: api.ErrSide, -1: api.ErrSide, math.MinInt: api.ErrSide, math.MaxInt: api.ErrSide} {
			checks(t, api.Topo{Kind: kind, W: length, H: length, Turn: turn}, want)
			if kind == api.Sphere && length != 2 {
				want = api.ErrSide
			}
			checks(t, api.Topo{Kind: kind, W: 2, H: length, Turn: turn}, want)
			checks(t, api.Topo{Kind: kind, W: length, H: 2, Turn: turn}, want)
		}
	}
}

func TestCheckOfEndlessSides(t *testing.T) {
	for kind, want := range map[uint8]api.Errno{api.Plane: api.OK, api.Torus: api.OK, api.Klein: api.ErrEndless, api.Cross: api.ErrEndless, api.Sphere: api.ErrEndless} {
		checks(t, api.Topo{Kind: kind}, want)
		if kind == api.Sphere {
			want = api.ErrSide // one endless side alone makes them unlike
		}
		checks(t, api.Topo{Kind: kind, W: 3}, want)
		checks(t, api.Topo{Kind: kind, H: 3}, want)
	}
}

func TestCheckOfShifts(t *testing.T) {
	for _, kind := range []uint8{api.Torus, api.Klein} {
		wide := api.Topo{Kind: kind, W: 5, H: 3, Turn: api.TurnWide}
		high := api.Topo{Kind: kind, W: 3, H: 5, Turn: api.TurnHigh}
		for _, a := range []api.Topo{wide, high} {
			for shift := -6; shift <= 6; shift++ {
				want := api.OK
				if shift <= -5 || shift >= 5 || shift == 0 && kind == api.Torus {
					want = api.ErrShift
				}
				a.Shift = shift
				checks(t, a, want)
			}
			for _, shift := range []int{math.MinInt, math.MinInt + 1, math.MaxInt} {
				a.Shift = shift
				checks(t, a, api.ErrShift)
			}
		}
	}
	for _, kind := range []uint8{api.Plane, api.Torus, api.Cross, api.Sphere} {
		for _, shift := range []int{math.MinInt, -1, 1, math.MaxInt} {
			checks(t, api.Topo{Kind: kind, W: 3, H: 3, Shift: shift}, api.ErrShift)
		}
	}
	for _, turn := range []uint8{api.TurnWide, api.TurnHigh} {
		for _, shift := range []int{-1, 0, 1} {
			checks(t, api.Topo{Kind: api.Torus, W: 3, Turn: turn, Shift: shift}, api.ErrShift)
			checks(t, api.Topo{Kind: api.Torus, H: 3, Turn: turn, Shift: shift}, api.ErrShift)
			checks(t, api.Topo{Kind: api.Torus, Turn: turn, Shift: shift}, api.ErrShift)
		}
		checks(t, api.Topo{Kind: api.Klein, W: 1, H: 1, Turn: turn}, api.OK)
		checks(t, api.Topo{Kind: api.Klein, W: 1, H: 1, Turn: turn, Shift: 1}, api.ErrShift)
		checks(t, api.Topo{Kind: api.Torus, W: 1, H: 1, Turn: turn, Shift: 1}, api.ErrShift)
		checks(t, api.Topo{Kind: api.Torus, W: api.MaxSide, H: api.MaxSide, Turn: turn, Shift: 1 - api.MaxSide}, api.OK)
	}
}

func TestCheckTellsItsErrorsInTheirOrder(t *testing.T) {
	a := api.Topo{Kind: 6, W: -1, H: 0, Turn: 3, Shift: 9}
	checks(t, a, api.ErrKind)
	a.Kind = api.Klein
	checks(t, a, api.ErrSide)
	a.W = 3
	checks(t, a, api.ErrEndless)
	a.H = 3
	checks(t, a, api.ErrTwist)
	a.Turn = api.TurnHigh
	checks(t, a, api.ErrShift)
	a.Shift = 2
	checks(t, a, api.OK)
	checks(t, api.Topo{Kind: api.Sphere, W: 0, H: 3, Turn: 1, Shift: 1}, api.ErrSide)
	checks(t, api.Topo{Kind: api.Sphere, Turn: 1, Shift: 1}, api.ErrEndless)
	checks(t, api.Topo{Kind: api.Sphere, W: 3, H: 3, Turn: 1, Shift: 5}, api.ErrTwist)
	checks(t, api.Topo{Kind: api.Klein, W: 3, H: 3, Shift: 1}, api.ErrTwist)
	checks(t, api.Topo{Kind: api.Torus, Turn: 3}, api.ErrTwist)
}

func TestAllCallsTellCheckAlone(t *testing.T) {
	far := api.Point{X: api.MaxFar + 1, Y: math.MinInt}
	for a := range everyTopo {
		want := topo.Check(a)
		if want == api.OK {
			continue
		}
		if s, e := topo.Print(a); s != "" || e != want {
			t.Errorf("Print(%v) = %q, %d", a, s, e)
		}
		if b, e := topo.Canon(a); b != (api.Topo{}) || e != want {
			t.Errorf("Canon(%v) = %v, %d", a, b, e)
		}
		if r, e := topo.Home(a); r != (api.Rect{}) || e != want {
			t.Errorf("Home(%v) = %v, %d", a, r, e)
		}
		for _, p := range []api.Point{{}, far} {
			if is, e := topo.Has(a, p); is || e != want {
				t.Errorf("Has(%v, %v) = %v, %d", a, p, is, e)
			}
		}
		if w, h, e := topo.Endless(a); w || h || e != want {
			t.Errorf("Endless(%v) = %v, %v, %d", a, w, h, e)
		}
		if b, e := topo.Across(a); b != (api.Topo{}) || e != want {
			t.Errorf("Across(%v) = %v, %d", a, b, e)
		}
	}
}
