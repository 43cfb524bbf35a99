package iso_test

import (
	"testing"

	"vivarium/api"
	"vivarium/iso"
)

// P5.5 and P5.6: what follows of the others.

// noneFar tells whether no ErrFar came; any other error is a fault.
func noneFar(t *testing.T, es ...api.Errno) bool {
	t.Helper()
	for _, e := range es {
		if e == api.ErrFar {
			return false
		}
		if e != api.OK {
			t.Fatal(e)
		}
	}
	return true
}

func isos(plans []plan) []api.Iso {
	var ms []api.Iso
	for _, p := range plans {
		ms = append(ms, p.iso())
	}
	return ms
}

func TestAtOfThenIsAtBehindAt(t *testing.T) {
	seen := 0
	ms := isos(everyPlan(-far, -2, 0, 1, far))
	for _, a := range ms {
		for _, b := range ms {
			ab, e := iso.Then(a, b)
			for _, p := range everyPlace(-far, -3, 0, 7) {
				q, f := iso.At(a, p)
				r, g := iso.At(b, q)
				s, h := iso.At(ab, p)
				if !noneFar(t, e, f) || !noneFar(t, g, h) {
					continue
				}
				seen++
				if r != s {
					t.Errorf("%v behind %v takes %v to %v, Then of them to %v", b, a, p, r, s)
				}
			}
		}
	}
	if seen < 10000 {
		t.Error(seen)
	}
}

func TestThenGoesInAnyBrackets(t *testing.T) {
	seen := 0
	ms := isos(append(everyPlan(-3, 0, 2), everyPlan(-far, far)...))
	for _, a := range ms {
		for _, b := range ms {
			for _, c := range ms {
				ab, e := iso.Then(a, b)
				bc, f := iso.Then(b, c)
				if !noneFar(t, e, f) {
					continue
				}
				left, e := iso.Then(ab, c)
				right, f := iso.Then(a, bc)
				if !noneFar(t, e, f) {
					continue
				}
				seen++
				if left != right {
					t.Errorf("(%v, %v), %v: %v and %v", a, b, c, left, right)
				}
			}
		}
	}
	if seen < 10000 {
		t.Error(seen)
	}
}

func TestThenWithBackIsNothing(t *testing.T) {
	nothing := mustPart(t, 0)
	for _, m := range isos(everyPlan(-far, -far+1, -5, 0, 1, 6, far)) {
		for _, m := range []api.Iso{m, signedMap(m)} {
			b, e := iso.Back(m)
			if e != api.OK {
				t.Fatal(e)
			}
			then(t, m, b, nothing)
			then(t, b, m, nothing)
			again, e := iso.Back(b)
			isMap(t, "Back of Back", again, e, m)
		}
	}
}

func TestBackOfThen(t *testing.T) {
	seen := 0
	ms := isos(everyPlan(-far, -4, 0, 1, far))
	for _, a := range ms {
		for _, b := range ms {
			ab, e := iso.Then(a, b)
			if !noneFar(t, e) {
				continue
			}
			back, e := iso.Back(ab)
			backA, f := iso.Back(a)
			backB, g := iso.Back(b)
			other, h := iso.Then(backB, backA)
			if !noneFar(t, e, f, g, h) {
				continue
			}
			seen++
			if back != other {
				t.Errorf("%v, %v: %v and %v", a, b, back, other)
			}
		}
	}
	if seen < 10000 {
		t.Error(seen)
	}
}

func TestDistancesAreKept(t *testing.T) {
	places := everyPlace(-far, -17, -1, 0, 1, 2, far)
	for _, m := range isos(everyPlan(-far, -1, 0, 6, far)) {
		for _, p := range places {
			for _, q := range places {
				mp, e := iso.At(m, p)
				mq, f := iso.At(m, q)
				if !noneFar(t, e, f) {
					continue
				}
				x, y := apart(p.X, q.X), apart(p.Y, q.Y)
				mx, my := apart(mp.X, mq.X), apart(mp.Y, mq.Y)
				if !(mx == x && my == y || mx == y && my == x) {
					t.Errorf("%v takes %v, %v to %v, %v", m, p, q, mp, mq)
				}
				if (p == q) != (mp == mq) {
					t.Errorf("%v takes %v, %v to %v, %v", m, p, q, mp, mq)
				}
			}
		}
	}
}

func apart(a, b int) int { return max(a-b, b-a) }
