package fold_test

import (
	"math"
	"testing"

	"vivarium/api"
	"vivarium/fold"
	"vivarium/iso"
)

// P6.3: Glue.

func TestGlueIsTheModels(t *testing.T) {
	for _, a := range append(smallOnes(5), greatOnes()...) {
		ms, e := fold.Glue(a)
		if e != api.OK {
			t.Fatalf("Glue(%v): %d", a, e)
		}
		var want []plan
		left, upper := glued(a)
		for _, m := range []*plan{left, upper} {
			if m != nil {
				want = append(want, *m)
			}
		}
		if len(ms) != len(want) {
			t.Fatalf("Glue(%v) = %v", a, ms)
		}
		for i, m := range ms {
			isThatMap(t, a, m, want[i])
		}
	}
}

// isThatMap holds a map of places against a plan of home numbers.
func isThatMap(t *testing.T, a api.Topo, m api.Iso, want plan) {
	t.Helper()
	for _, p := range append(window(2), at(-1000, 4711), at(far/2, -far/2)) {
		to := out(a, want.at(home(a, p)))
		if q, e := iso.At(m, p); q != to || e != api.OK {
			t.Fatalf("%v of %v takes %v to %v, %d, not %v", m, a, p, q, e, to)
		}
	}
	if k, e := iso.Which(m); k != want.part() || e != api.OK {
		t.Errorf("%v of %v: part %d, %d", m, a, k, e)
	}
	for _, n := range []float64{real(m.Turn), imag(m.Turn), real(m.Move), imag(m.Move)} {
		if n == 0 && math.Signbit(n) {
			t.Errorf("%v of %v has a nought with a sign", m, a)
		}
	}
}

func TestGlueOfShifts(t *testing.T) {
	wide := api.Topo{Kind: api.Torus, W: 5, H: 4, Turn: api.TurnWide, Shift: -3}
	glue(t, wide, api.Iso{Turn: 1, Move: 5}, api.Iso{Turn: 1, Move: -3 + 4i})
	high := api.Topo{Kind: api.Torus, W: 5, H: 4, Turn: api.TurnHigh, Shift: 2}
	glue(t, high, api.Iso{Turn: 1, Move: 5 + 2i}, api.Iso{Turn: 1, Move: 4i})
	wide.Kind, high.Kind = api.Klein, api.Klein
	glue(t, wide, api.Iso{Turn: 1, Move: 5}, api.Iso{Turn: -1, Flip: true, Move: -3 + 4i})
	glue(t, high, api.Iso{Turn: 1, Flip: true, Move: 5 + 1i}, api.Iso{Turn: 1, Move: 4i})
	const most = api.MaxSide
	great := api.Topo{Kind: api.Klein, W: most, H: most, Turn: api.TurnHigh, Shift: most - 1}
	glue(t, great, api.Iso{Turn: 1, Flip: true, Move: complex(most, most-2)}, api.Iso{Turn: 1, Move: complex(0, most)})
	great.Turn, great.Shift = api.TurnWide, 1-most
	glue(t, great, api.Iso{Turn: 1, Move: most}, api.Iso{Turn: -1, Flip: true, Move: complex(-most, most)})
}

func TestGlueOfWhatIsNotGlued(t *testing.T) {
	for _, kind := range []uint8{api.Plane, api.Sphere} {
		for _, n := range []int{1, 2, 5, api.MaxSide} {
			glue(t, api.Topo{Kind: kind, W: n, H: n})
		}
	}
	for _, a := range []api.Topo{{Kind: api.Plane}, {Kind: api.Plane, W: 3}, {Kind: api.Plane, H: 3}, {Kind: api.Torus}} {
		glue(t, a)
	}
}

func TestGlueOfEndlessSides(t *testing.T) {
	glue(t, api.Topo{Kind: api.Torus, W: 3}, api.Iso{Turn: 1, Move: 3})
	glue(t, api.Topo{Kind: api.Torus, H: 3}, api.Iso{Turn: 1, Move: 3i})
}

func TestGluesListsAreTheCallers(t *testing.T) {
	for _, a := range []api.Topo{torus, klein, cross, {Kind: api.Torus, W: 3}} {
		one, _ := fold.Glue(a)
		two, _ := fold.Glue(a)
		kept := append([]api.Iso(nil), two...)
		for i := range one {
			one[i] = api.Iso{Turn: 7}
		}
		if more := one[:cap(one)]; len(more) > 0 {
			more[len(more)-1] = api.Iso{Turn: 8}
		}
		glue(t, a, kept...)
		for i := range two {
			if two[i] != kept[i] {
				t.Errorf("Glue(%v): what another call answered was changed", a)
			}
		}
	}
}
