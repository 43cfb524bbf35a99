package life_test

import (
	"math"
	"testing"

	"vivarium/api"
	"vivarium/life"
)

// P8.2: Check, and Print's one form.

// checks looks at Check of one rule.
func checks(t *testing.T, l api.Life, want api.Errno) {
	t.Helper()
	if e := life.Check(l); e != want {
		t.Errorf("Check(%v) = %d, not %d", l, e, want)
	}
}

// prints looks at Print of a rule that may be.
func prints(t *testing.T, l api.Life, want string) {
	t.Helper()
	if s, e := life.Print(l); s != want || e != api.OK {
		t.Errorf("Print(%v) = %q, %d, not %q", l, s, e, want)
	}
}

// TestCheckOfAllBits: all numbers as Born and as Stay, beside no counts, all that may be, and one that may not.
func TestCheckOfAllBits(t *testing.T) {
	for _, h := range all {
		full := power(most[h]+1) - 1
		for bits := range math.MaxUint16 + 1 {
			want := api.OK
			if bits > full {
				want = api.ErrCount
			}
			for _, beside := range []uint16{0, uint16(full)} {
				checks(t, api.Life{Hood: h, Born: uint16(bits), Stay: beside}, want)
				checks(t, api.Life{Hood: h, Born: beside, Stay: uint16(bits)}, want)
			}
			checks(t, api.Life{Hood: h, Born: uint16(bits), Stay: uint16(full + 1)}, api.ErrCount)
			checks(t, api.Life{Hood: h, Born: uint16(full + 1), Stay: uint16(bits)}, api.ErrCount)
		}
	}
}

func TestCheckAtTheGreatestCount(t *testing.T) {
	for h, greatest := range map[uint8]int{api.Moore: 8, api.Neumann: 4, api.Hex: 6} {
		checks(t, rule(h, []int{greatest}, nil), api.OK)
		checks(t, rule(h, nil, []int{greatest}), api.OK)
		checks(t, rule(h, []int{greatest}, []int{greatest}), api.OK)
		for n := greatest + 1; n < 16; n++ {
			checks(t, rule(h, []int{n}, nil), api.ErrCount)
			checks(t, rule(h, nil, []int{n}), api.ErrCount)
			checks(t, rule(h, []int{n}, []int{n}), api.ErrCount)
		}
	}
}

// TestCheckOfNoNeighbourhood: ErrHood counts ahead of ErrCount.
func TestCheckOfNoNeighbourhood(t *testing.T) {
	for _, h := range none() {
		for _, bits := range []uint16{0, 1, 8, 16, 256, 512, 0x8000, math.MaxUint16} {
			checks(t, api.Life{Hood: h, Born: bits}, api.ErrHood)
			checks(t, api.Life{Hood: h, Stay: bits}, api.ErrHood)
			checks(t, api.Life{Hood: h, Born: bits, Stay: bits}, api.ErrHood)
		}
	}
}

func TestPrintOfRulesThatMayNotBe(t *testing.T) {
	for l, want := range wrongRules() {
		checks(t, l, want)
		if s, e := life.Print(l); s != "" || e != want {
			t.Errorf("Print(%v) = %q, %d, not %d", l, s, e, want)
		}
	}
}

func TestPrintHasOneForm(t *testing.T) {
	prints(t, rule(api.Moore, nil, nil), "B/S")
	prints(t, rule(api.Neumann, nil, nil), "B/SV")
	prints(t, rule(api.Hex, nil, nil), "B/SH")
	prints(t, rule(api.Moore, []int{8, 6, 3}, []int{3, 2}), "B368/S23")
	prints(t, rule(api.Moore, []int{8, 7, 6, 5, 4, 3, 2, 1, 0}, []int{0}), "B012345678/S0")
	prints(t, rule(api.Neumann, []int{4, 3, 2, 1, 0}, []int{4, 0}), "B01234/S04V")
	prints(t, rule(api.Hex, []int{6, 0}, []int{6, 5, 4, 3, 2, 1, 0}), "B06/S0123456H")
}

// TestPrintIsWrittenByTheChapter: all rules, each list written by what its bits are worth.
func TestPrintIsWrittenByTheChapter(t *testing.T) {
	list := func(bits uint16) string {
		s := ""
		for n := range 10 {
			if int(bits)/power(n)%2 == 1 {
				s += string([]byte{'0' + byte(n)})
			}
		}
		return s
	}
	for _, h := range all {
		lists := map[uint16]string{}
		for bits := range power(most[h] + 1) {
			lists[uint16(bits)] = list(uint16(bits))
		}
		for l := range everyRule(h) {
			prints(t, l, "B"+lists[l.Born]+"/S"+lists[l.Stay]+ends[h][0])
		}
	}
}
