package gens_test

import (
	"strconv"
	"testing"

	"vivarium/api"
	"vivarium/gens"
)

// P9.2: Check, and Print's one form.

// checks looks at Check of one rule, and whether Print refuses what it refuses.
func checks(t *testing.T, g api.Gens, want api.Errno) {
	t.Helper()
	if e := gens.Check(g); e != want {
		t.Errorf("Check(%v) = %d, not %d", g, e, want)
	}
	if s, e := gens.Print(g); e != want || (s == "") != (want != api.OK) {
		t.Errorf("Print(%v) = %q, %d, not %d", g, s, e, want)
	}
}

// prints looks at Print of a rule that may be.
func prints(t *testing.T, g api.Gens, want string) {
	t.Helper()
	if s, e := gens.Print(g); s != want || e != api.OK {
		t.Errorf("Print(%v) = %q, %d, not %q", g, s, e, want)
	}
}

func TestCheckOfStates(t *testing.T) {
	for _, h := range all {
		for _, l := range []api.Life{{Hood: h}, rule(h, "2", "034", 0).Life, {Hood: h, Born: uint16(power(most[h]+1) - 1), Stay: uint16(power(most[h]+1) - 1)}} {
			for states := -300; states <= 600; states++ {
				want := api.ErrGens
				if states >= 2 && states <= 256 {
					want = api.OK
				}
				checks(t, api.Gens{Life: l, States: states}, want)
			}
			for _, states := range noStates {
				checks(t, api.Gens{Life: l, States: states}, api.ErrGens)
			}
		}
	}
}

// TestCheckOfBirthsAndStays: life's error counts, whatever States is.
func TestCheckOfBirthsAndStays(t *testing.T) {
	checks(t, api.Gens{}, api.ErrHood)
	for l, want := range wrongLives() {
		for _, states := range append([]int{2, 3, 4, 256}, noStates...) {
			checks(t, api.Gens{Life: l, States: states}, want)
		}
	}
}

func TestCheckOfAllBirthsAndStays(t *testing.T) {
	for _, h := range all {
		for l := range everyLife(h) {
			if e := gens.Check(api.Gens{Life: l, States: 3}); e != api.OK {
				t.Fatalf("Check(%v): %d", l, e)
			}
		}
	}
}

func TestPrintOfAllRules(t *testing.T) {
	for _, h := range all {
		lists := map[uint16]string{}
		for bits := range power(most[h] + 1) {
			lists[uint16(bits)] = list(uint16(bits))
		}
		for l := range everyLife(h) {
			prints(t, api.Gens{Life: l, States: 4}, "B"+lists[l.Born]+"/S"+lists[l.Stay]+ends[h]+"/C4")
		}
	}
}

func TestPrintOfAllStates(t *testing.T) {
	for _, h := range all {
		for _, l := range someLives(h) {
			for _, states := range []int{2, 9, 10, 99, 100, 255, 256} {
				prints(t, api.Gens{Life: l, States: states}, "B"+list(l.Born)+"/S"+list(l.Stay)+ends[h]+"/C"+strconv.Itoa(states))
			}
		}
		for states := 2; states <= 256; states++ {
			prints(t, rule(h, "24", "13", states), "B24/S13"+ends[h]+"/C"+strconv.Itoa(states))
		}
	}
}
