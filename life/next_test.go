package life_test

import (
	"math"
	"testing"

	"vivarium/api"
	"vivarium/life"
)

// P8.3: what becomes of a cell. P8.4: living and dead exchanged.

// next looks at Next of what may be asked.
func next(t *testing.T, l api.Life, state uint8, living int, want uint8) {
	t.Helper()
	if s, e := life.Next(l, state, living); s != want || e != api.OK {
		t.Errorf("Next(%v, %d, %d) = %d, %d, not %d", l, state, living, s, e, want)
	}
}

// noNext looks at Next of what may not be asked.
func noNext(t *testing.T, l api.Life, state uint8, living int, want api.Errno) {
	t.Helper()
	if s, e := life.Next(l, state, living); s != 0 || e != want {
		t.Errorf("Next(%v, %d, %d) = %d, %d, not %d", l, state, living, s, e, want)
	}
}

// noCounts has numbers that are no count of the neighbourhood.
func noCounts(h uint8) []int {
	return []int{-1, -2, -16, math.MinInt, most[h] + 1, most[h] + 2, 9, 15, 16, 64, 1 << 32, math.MaxInt}
}

func TestNextOfAllRules(t *testing.T) {
	for _, h := range all {
		for l := range everyRule(h) {
			for living := range most[h] + 1 {
				next(t, l, 0, living, modelNext(l, 0, living))
				next(t, l, 1, living, modelNext(l, 1, living))
			}
		}
	}
}

func TestNextOfOneCount(t *testing.T) {
	for _, h := range all {
		for n := range most[h] + 1 {
			for living := range most[h] + 1 {
				want := uint8(0)
				if living == n {
					want = 1
				}
				next(t, rule(h, []int{n}, nil), 0, living, want)
				next(t, rule(h, []int{n}, nil), 1, living, 0)
				next(t, rule(h, nil, []int{n}), 1, living, want)
				next(t, rule(h, nil, []int{n}), 0, living, 0)
			}
		}
	}
}

func TestNextOfNoCount(t *testing.T) {
	for _, h := range all {
		for _, l := range []api.Life{rule(h, nil, nil), {Hood: h, Born: uint16(power(most[h]+1) - 1), Stay: uint16(power(most[h]+1) - 1)}} {
			for _, living := range noCounts(h) {
				noNext(t, l, 0, living, api.ErrArg)
				noNext(t, l, 1, living, api.ErrArg)
			}
		}
	}
}

// TestNextOfNoState: ErrState counts ahead of ErrArg.
func TestNextOfNoState(t *testing.T) {
	for _, h := range all {
		l := rule(h, []int{0, 3}, []int{2, 3})
		for state := 2; state <= 255; state++ {
			for living := range most[h] + 1 {
				noNext(t, l, uint8(state), living, api.ErrState)
			}
			for _, living := range noCounts(h) {
				noNext(t, l, uint8(state), living, api.ErrState)
			}
		}
	}
}

// TestNextOfRulesThatMayNotBe: Check's error counts ahead of the others.
func TestNextOfRulesThatMayNotBe(t *testing.T) {
	for l, want := range wrongRules() {
		for _, state := range []uint8{0, 1, 2, 255} {
			for _, living := range []int{-1, 0, 3, 4, 5, 6, 7, 8, 9, math.MinInt, math.MaxInt} {
				noNext(t, l, state, living, want)
			}
		}
	}
}

// TestTurnedIsTheDeadForTheLiving: of all rules, Turned against Next.
func TestTurnedIsTheDeadForTheLiving(t *testing.T) {
	for _, h := range all {
		for l := range everyRule(h) {
			turned := mustTurned(t, l)
			if turned.Hood != h || life.Check(turned) != api.OK {
				t.Fatalf("Turned(%v) = %v", l, turned)
			}
			for n := range most[h] + 1 {
				for s := range uint8(2) {
					got, e := life.Next(turned, s, n)
					of, f := life.Next(l, 1-s, most[h]-n)
					if got != 1-of || e != api.OK || f != api.OK {
						t.Fatalf("Next of %v turned, of %d and %d: %d, %d, not 1 - %d (%d)", l, s, n, got, e, of, f)
					}
				}
			}
		}
	}
}

// TestTurnedByTheCounts: the same by lists of numbers, without Next.
func TestTurnedByTheCounts(t *testing.T) {
	for s, want := range map[string]string{
		"B/S":          "B012345678/S012345678",
		"B0/S":         "B012345678/S01234567",
		"B/S0":         "B01234567/S012345678",
		"B/SV":         "B01234/S01234V",
		"B1/S04V":      "B123/S0124V",
		"B/SH":         "B0123456/S0123456H",
		"B2/S34H":      "B01456/S012356H",
		"B3678/S34678": "B3678/S34678",
	} {
		if got := mustPrint(t, mustTurned(t, mustParse(t, s))); got != want {
			t.Errorf("%s turned is %s, not %s", s, got, want)
		}
	}
}

func TestTurnedOfRulesThatMayNotBe(t *testing.T) {
	for l, want := range wrongRules() {
		if turned, e := life.Turned(l); turned != (api.Life{}) || e != want {
			t.Errorf("Turned(%v) = %v, %d, not %d", l, turned, e, want)
		}
	}
}
