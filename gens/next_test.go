package gens_test

import (
	"math"
	"testing"

	"vivarium/api"
	"vivarium/gens"
)

// P9.3: what becomes of a cell.

// next looks at Next of what may be asked.
func next(t *testing.T, g api.Gens, state uint8, living int, want uint8) {
	t.Helper()
	if s, e := gens.Next(g, state, living); s != want || e != api.OK {
		t.Errorf("Next(%v, %d, %d) = %d, %d, not %d", g, state, living, s, e, want)
	}
}

// noNext looks at Next of what may not be asked.
func noNext(t *testing.T, g api.Gens, state uint8, living int, want api.Errno) {
	t.Helper()
	if s, e := gens.Next(g, state, living); s != 0 || e != want {
		t.Errorf("Next(%v, %d, %d) = %d, %d, not %d", g, state, living, s, e, want)
	}
}

// noCounts has numbers that are no count of the neighbourhood.
func noCounts(h uint8) []int {
	return []int{-1, -2, -16, math.MinInt, most[h] + 1, most[h] + 2, 9, 15, 16, 64, 1 << 32, math.MaxInt}
}

// TestNextAsModel: every state and count of rules in which all sets of counts stand.
func TestNextAsModel(t *testing.T) {
	for _, h := range all {
		for _, l := range someLives(h) {
			for _, states := range []int{2, 3, 4, 17, 255, 256} {
				g := api.Gens{Life: l, States: states}
				for state := range states {
					for living := range most[h] + 1 {
						next(t, g, uint8(state), living, uint8(modelNext(g, state, living)))
					}
				}
			}
		}
	}
}

// TestNextOfAllBirthsAndStays: the dead and the living of all rules.
func TestNextOfAllBirthsAndStays(t *testing.T) {
	for _, h := range all {
		for l := range everyLife(h) {
			g := api.Gens{Life: l, States: 5}
			for living := range most[h] + 1 {
				next(t, g, 0, living, uint8(modelNext(g, 0, living)))
				next(t, g, 1, living, uint8(modelNext(g, 1, living)))
			}
		}
	}
}

func TestNextOfAllStates(t *testing.T) {
	for _, h := range all {
		for states := 2; states <= 256; states++ {
			g := rule(h, "2", "13", states)
			begins, stays := uint8(2), uint8(1)
			if states == 2 {
				begins = 0
			}
			next(t, g, 0, 2, 1)
			next(t, g, 0, 3, 0)
			next(t, g, 1, 3, stays)
			next(t, g, 1, 2, begins)
			for state := 2; state < states-1; state++ {
				next(t, g, uint8(state), 2, uint8(state+1))
				next(t, g, uint8(state), 3, uint8(state+1))
			}
			if states > 2 {
				next(t, g, uint8(states-1), 2, 0) // behind the highest, at a count at which one is born too
				next(t, g, uint8(states-1), 3, 0)
			}
		}
	}
}

// TestNextOfNoState: ErrState counts ahead of ErrArg.
func TestNextOfNoState(t *testing.T) {
	for _, h := range all {
		for states := 2; states < 256; states++ {
			g := rule(h, "02", "23", states)
			for _, state := range []int{states, min(states+1, 255), 255} {
				for living := range most[h] + 1 {
					noNext(t, g, uint8(state), living, api.ErrState)
				}
				for _, living := range noCounts(h) {
					noNext(t, g, uint8(state), living, api.ErrState)
				}
			}
		}
		next(t, rule(h, "", "", 256), 255, 0, 0) // there is no state above it
	}
}

// TestNextOfNoCount: of every state, those that fade too.
func TestNextOfNoCount(t *testing.T) {
	for _, h := range all {
		full := uint16(power(most[h]+1) - 1)
		for _, l := range []api.Life{{Hood: h}, {Hood: h, Born: full, Stay: full}} {
			for _, states := range []int{2, 3, 4, 256} {
				for state := range states {
					for _, living := range noCounts(h) {
						noNext(t, api.Gens{Life: l, States: states}, uint8(state), living, api.ErrArg)
					}
				}
			}
		}
	}
}

// TestNextOfRulesThatMayNotBe: Check's error counts ahead of the others.
func TestNextOfRulesThatMayNotBe(t *testing.T) {
	look := func(g api.Gens, want api.Errno) {
		for _, state := range []uint8{0, 1, 2, 3, 254, 255} {
			for _, living := range []int{-1, 0, 3, 4, 5, 6, 7, 8, 9, math.MinInt, math.MaxInt} {
				noNext(t, g, state, living, want)
			}
		}
	}
	for l, want := range wrongLives() {
		for _, states := range []int{-1, 0, 1, 2, 4, 256, 257} {
			look(api.Gens{Life: l, States: states}, want)
		}
	}
	for _, h := range all {
		for _, states := range noStates {
			look(rule(h, "2", "34", states), api.ErrGens)
		}
	}
}
