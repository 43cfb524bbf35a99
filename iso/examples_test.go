package iso_test

import (
	"math"
	"testing"

	"vivarium/api"
	"vivarium/iso"
)

// The rows of the chapter's section Examples, in their order.

func mustPart(t *testing.T, k int) api.Iso {
	t.Helper()
	m, e := iso.Part(k)
	if e != api.OK {
		t.Fatalf("Part(%d): %d", k, e)
	}
	return m
}

func mustShift(t *testing.T, x, y int) api.Iso {
	t.Helper()
	m, e := iso.Shift(x, y)
	if e != api.OK {
		t.Fatalf("Shift(%d, %d): %d", x, y, e)
	}
	return m
}

// at looks at At of a place that m takes to one that is not too far.
func at(t *testing.T, m api.Iso, p, want api.Point) {
	t.Helper()
	if q, e := iso.At(m, p); q != want || e != api.OK {
		t.Errorf("At(%v, %v) = %v, %d, not %v", m, p, q, e, want)
	}
}

// notAt looks at At's error.
func notAt(t *testing.T, m api.Iso, p api.Point, want api.Errno) {
	t.Helper()
	if q, e := iso.At(m, p); q != (api.Point{}) || e != want {
		t.Errorf("At(%v, %v) = %v, %d, not %d", m, p, q, e, want)
	}
}

// then looks at Then of maps that come to one that may be.
func then(t *testing.T, a, b, want api.Iso) {
	t.Helper()
	m, e := iso.Then(a, b)
	isMap(t, "Then", m, e, want)
}

// notThen looks at Then's error.
func notThen(t *testing.T, a, b api.Iso, want api.Errno) {
	t.Helper()
	m, e := iso.Then(a, b)
	noMap(t, "Then", m, e, want)
}

func TestExamplesOfValid(t *testing.T) {
	if m := (api.Iso{Turn: 1, Move: 3 - 4i}); !iso.Valid(m) {
		t.Error("not Valid", m)
	}
	for _, m := range []api.Iso{{Turn: 2}, {Turn: 1, Move: 0.5}, {Turn: 1, Move: complex(math.NaN(), 0)}, {Turn: 1, Move: far + 1}, {Turn: 0}} {
		if iso.Valid(m) {
			t.Error("Valid", m)
		}
	}
}

func TestExamplesOfPart(t *testing.T) {
	m, e := iso.Part(1)
	isMap(t, "Part(1)", m, e, api.Iso{Turn: 1i})
	m, e = iso.Part(5)
	isMap(t, "Part(5)", m, e, api.Iso{Turn: 1i, Flip: true})
	m, e = iso.Part(8)
	noMap(t, "Part(8)", m, e, api.ErrArg)
	m, e = iso.Part(-1)
	noMap(t, "Part(-1)", m, e, api.ErrArg)
}

func TestExamplesOfWhich(t *testing.T) {
	if k, e := iso.Which(api.Iso{Turn: -1, Flip: true, Move: 7}); k != 6 || e != api.OK {
		t.Error(k, e)
	}
	if k, e := iso.Which(api.Iso{}); k != 0 || e != api.ErrIso {
		t.Error(k, e)
	}
}

func TestExamplesOfShift(t *testing.T) {
	m, e := iso.Shift(3, -4)
	isMap(t, "Shift(3, -4)", m, e, api.Iso{Turn: 1, Move: 3 - 4i})
	m, e = iso.Shift(far+1, 0)
	noMap(t, "Shift(2^40 + 1, 0)", m, e, api.ErrFar)
}

func TestExamplesOfAt(t *testing.T) {
	p := api.Point{X: 2, Y: 3}
	at(t, api.Iso{Turn: 1i, Move: 10}, p, api.Point{X: 7, Y: 2})
	at(t, api.Iso{Turn: 1, Flip: true}, p, api.Point{X: 2, Y: -3})
	at(t, api.Iso{Turn: -1i, Flip: true, Move: 1 + 1i}, p, api.Point{X: -2, Y: -1})
	notAt(t, api.Iso{Turn: 1, Move: 1}, api.Point{X: far}, api.ErrFar)
	notAt(t, api.Iso{Turn: 1, Move: -1}, api.Point{X: far + 1}, api.ErrFar)
}

func TestExamplesOfThen(t *testing.T) {
	then(t, mustPart(t, 1), mustPart(t, 4), mustPart(t, 7))
	then(t, mustPart(t, 4), mustPart(t, 1), mustPart(t, 5))
	then(t, mustShift(t, 1, 2), mustPart(t, 1), api.Iso{Turn: 1i, Move: -2 + 1i})
	then(t, mustPart(t, 1), mustShift(t, 1, 2), api.Iso{Turn: 1i, Move: 1 + 2i})
	notThen(t, mustShift(t, far, 0), mustShift(t, 1, 0), api.ErrFar)
}

func TestExamplesOfBack(t *testing.T) {
	m, e := iso.Back(api.Iso{Turn: 1i, Move: 10})
	isMap(t, "Back of a turn", m, e, api.Iso{Turn: -1i, Move: 10i})
	m, e = iso.Back(api.Iso{Turn: 1i, Flip: true, Move: 10})
	isMap(t, "Back of a reflection", m, e, api.Iso{Turn: 1i, Flip: true, Move: -10i})
}

func TestExamplesOfSame(t *testing.T) {
	half, e := iso.Then(mustPart(t, 1), mustPart(t, 1))
	if e != api.OK {
		t.Fatal(e)
	}
	if is, e := iso.Same(mustPart(t, 2), half); !is || e != api.OK {
		t.Error(is, e)
	}
	if is, e := iso.Same(mustPart(t, 0), mustShift(t, 1, 0)); is || e != api.OK {
		t.Error(is, e)
	}
}

func TestExamplesOfTimes(t *testing.T) {
	for k, want := range []int{1, 4, 2, 4, 2, 2, 2, 2} {
		if n, e := iso.Times(k); n != want || e != api.OK {
			t.Errorf("Times(%d) = %d, %d, not %d", k, n, e, want)
		}
	}
}
