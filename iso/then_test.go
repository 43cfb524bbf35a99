package iso_test

import (
	"testing"

	"vivarium/api"
	"vivarium/iso"
)

// P5.3: Then, Back, Same.

func TestThenIsTheModels(t *testing.T) {
	gone, stayed := 0, 0
	all := everyPlan(-far, -far+1, -1, 0, 2, far)
	for _, a := range all {
		for _, b := range all {
			want := a.then(b)
			if !want.isNear() {
				notThen(t, a.iso(), b.iso(), api.ErrFar)
				gone++
				continue
			}
			then(t, a.iso(), b.iso(), want.iso())
			then(t, signedMap(a.iso()), signedMap(b.iso()), want.iso())
			stayed++
		}
	}
	if gone < 1000 || stayed < 1000 {
		t.Error(gone, stayed)
	}
}

func TestThenOfAllLinearParts(t *testing.T) {
	for a, l := range eight {
		for b, m := range eight {
			then(t, mustPart(t, a), mustPart(t, b), mustPart(t, l.plan.then(m.plan).which()))
		}
	}
}

func TestFlipBehindFlipIsNone(t *testing.T) {
	for a := 4; a < 8; a++ {
		for b := 4; b < 8; b++ {
			m, e := iso.Then(mustPart(t, a), mustPart(t, b))
			isMap(t, "Then", m, e, api.Iso{Turn: eight[(b-a+4)%4].turn})
		}
	}
	flip := api.Iso{Turn: 1i, Flip: true, Move: 3 - 4i}
	then(t, flip, flip, api.Iso{Turn: 1, Move: -1 - 1i}) // i * (3 + 4i) is -4 + 3i
}

func TestThenUpToMaxFar(t *testing.T) {
	for _, s := range []int{1, -1} {
		then(t, mustShift(t, s*(far-1), 0), mustShift(t, s, 0), mustShift(t, s*far, 0))
		then(t, mustShift(t, 0, s*(far-1)), mustShift(t, 0, s), mustShift(t, 0, s*far))
		then(t, mustShift(t, s*far, s*far), mustShift(t, -s*far, -s*far), api.Iso{Turn: 1})
		notThen(t, mustShift(t, s*far, 0), mustShift(t, s, 0), api.ErrFar)
		notThen(t, mustShift(t, 0, s*far), mustShift(t, 0, s), api.ErrFar)
		notThen(t, mustShift(t, s*far, s*far), mustShift(t, s*far, s*far), api.ErrFar)
	}
	upward := api.Iso{Turn: 1i, Move: -1}
	notThen(t, mustShift(t, 0, far), upward, api.ErrFar) // the Move is turned ahead of being added to
	then(t, upward, mustShift(t, 0, far), api.Iso{Turn: 1i, Move: complex(-1, far)})
}

func TestThenAndSameOfMapsThatMayNotBe(t *testing.T) {
	edge := mustShift(t, far, far)
	for _, m := range wrongMaps() {
		for _, well := range []api.Iso{{Turn: 1}, {Turn: -1i, Flip: true, Move: 5}, edge} {
			for _, pair := range [][2]api.Iso{{m, well}, {well, m}, {m, m}} {
				notThen(t, pair[0], pair[1], api.ErrIso)
				if is, e := iso.Same(pair[0], pair[1]); is || e != api.ErrIso {
					t.Errorf("Same(%v) = %v, %d", pair, is, e)
				}
			}
		}
	}
}

func TestThenTellsTheMapsAheadOfWhatComesOfThem(t *testing.T) {
	notThen(t, mustShift(t, far, 0), api.Iso{Turn: 2, Move: 1}, api.ErrIso)
	notThen(t, api.Iso{Turn: 1, Move: far + 1}, mustShift(t, far, 0), api.ErrIso)
	notThen(t, mustShift(t, far, 0), api.Iso{Turn: 1, Move: -far - 1}, api.ErrIso) // which would come to -1
}

func TestBackIsTheModels(t *testing.T) {
	for _, p := range everyPlan(-far, -far+1, -7, -1, 0, 1, 10, far-1, far) {
		for _, m := range []api.Iso{p.iso(), signedMap(p.iso())} {
			b, e := iso.Back(m)
			isMap(t, "Back", b, e, p.back().iso())
			if !iso.Valid(b) {
				t.Error("not Valid", b)
			}
		}
	}
}

func TestBackOfMapsThatMayNotBe(t *testing.T) {
	for _, m := range wrongMaps() {
		b, e := iso.Back(m)
		noMap(t, "Back", b, e, api.ErrIso)
	}
}

func TestBackTakesBack(t *testing.T) {
	for _, p := range everyPlan(-1000, -1, 0, 3, 77) {
		b, e := iso.Back(p.iso())
		if e != api.OK {
			t.Fatal(e)
		}
		for _, q := range everyPlace(-9, 0, 1, 123456) {
			at(t, b, p.at(q), q)
		}
	}
}

// Two maps do the same just if they do so at three places that lie on no line.
func TestSameIsWhatTheyDo(t *testing.T) {
	same, unlike := 0, 0
	all := everyPlan(-far, -1, 0, 1, far)
	for _, a := range all {
		for _, b := range all {
			want := true
			for _, q := range []api.Point{{}, {X: 1}, {Y: 1}} {
				want = want && a.at(q) == b.at(q)
			}
			if want {
				same++
			} else {
				unlike++
			}
			for _, m := range []api.Iso{a.iso(), signedMap(a.iso())} {
				if is, e := iso.Same(m, b.iso()); is != want || e != api.OK {
					t.Errorf("Same(%v, %v) = %v, %d", m, b.iso(), is, e)
				}
			}
		}
	}
	if same != len(all) || unlike != len(all)*(len(all)-1) {
		t.Error(same, unlike)
	}
}

func TestNoAnswerHasASignedNought(t *testing.T) {
	noughts := []complex128{0, complex(minusNought, 0), complex(0, minusNought), complex(minusNought, minusNought), complex(minusNought, 1), complex(-1, minusNought)}
	var all []api.Iso
	for _, l := range eight {
		for _, turn := range []complex128{l.turn, signed(l.turn)} {
			for _, move := range noughts {
				all = append(all, api.Iso{Turn: turn, Flip: l.flip, Move: move})
			}
		}
	}
	for _, a := range all {
		b, e := iso.Back(a)
		if e != api.OK || hasSignedNought(b.Turn) || hasSignedNought(b.Move) {
			t.Errorf("Back(%v) = %v, %d", a, b, e)
		}
		for _, b := range all {
			m, e := iso.Then(a, b)
			if e != api.OK || hasSignedNought(m.Turn) || hasSignedNought(m.Move) {
				t.Errorf("Then(%v, %v) = %v, %d", a, b, m, e)
			}
		}
	}
}
