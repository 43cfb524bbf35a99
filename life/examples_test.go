package life_test

import (
	"strings"
	"testing"

	"vivarium/api"
	"vivarium/life"
)

// The rows of the chapter's sections Examples and Limits, in their order.

var conway = api.Life{Hood: api.Moore, Born: 0x0008, Stay: 0x000c}

func TestExamplesOfParse(t *testing.T) {
	reads(t, "B3/S23", conway)
	reads(t, "b3/s32", conway)
	reads(t, "B/S", api.Life{Hood: api.Moore})
	reads(t, "B2/S34H", api.Life{Hood: api.Hex, Born: 0x0004, Stay: 0x0018})
	reads(t, "B13/S01234V", api.Life{Hood: api.Neumann, Born: 0x000a, Stay: 0x001f})
	refuses(t, "", api.ErrLife, 0)
	refuses(t, "S23/B3", api.ErrLife, 0)
	refuses(t, "B3", api.ErrLife, 2)
	refuses(t, "B3/S23x", api.ErrLife, 6)
	refuses(t, "B3/S23VV", api.ErrLife, 7)
	refuses(t, "B 3/S23", api.ErrLife, 1)
	refuses(t, "B3S23", api.ErrLife, 2)
	refuses(t, "B33/S23", api.ErrTwice, 2)
	refuses(t, "B3/S232x", api.ErrTwice, 6)
	refuses(t, "B9/S", api.ErrCount, 1)
	refuses(t, "B35/S2V", api.ErrCount, 2)
	refuses(t, "B1/S27H", api.ErrCount, 5)
	refuses(t, "B5/S2V2", api.ErrLife, 6)
}

func TestExamplesOfPrintAndCheck(t *testing.T) {
	prints(t, conway, "B3/S23")
	prints(t, api.Life{Hood: api.Neumann, Born: 0x000a, Stay: 0x0010}, "B13/S4V")
	checks(t, api.Life{}, api.ErrHood)
	checks(t, api.Life{Hood: 4, Born: 0xffff}, api.ErrHood)
	checks(t, api.Life{Hood: api.Neumann, Born: 0x0020}, api.ErrCount)
	checks(t, api.Life{Hood: api.Moore, Born: 0x0100}, api.OK)
	checks(t, api.Life{Hood: api.Moore, Stay: 0x0200}, api.ErrCount)
}

func TestExamplesOfNext(t *testing.T) {
	next(t, conway, 0, 3, 1)
	next(t, conway, 1, 2, 1)
	next(t, conway, 1, 4, 0)
	next(t, conway, 0, 2, 0)
	noNext(t, conway, 2, 9, api.ErrState)
	noNext(t, conway, 1, 9, api.ErrArg)
	noNext(t, conway, 0, -1, api.ErrArg)
	noNext(t, mustParse(t, "B/SV"), 0, 5, api.ErrArg)
}

func TestExamplesOfTurned(t *testing.T) {
	for s, want := range map[string]string{"B3/S23": "B0123478/S01234678", "B/S8": "B12345678/S012345678"} {
		if got := mustPrint(t, mustTurned(t, mustParse(t, s))); got != want {
			t.Errorf("%s turned is %s, not %s", s, got, want)
		}
	}
	for _, l := range []api.Life{{}, {Hood: 4, Born: 0xffff}, {Hood: api.Neumann, Born: 0x0020}, {Hood: api.Moore, Stay: 0x0200}} {
		if turned, e := life.Turned(l); turned != (api.Life{}) || e != life.Check(l) || e == api.OK {
			t.Errorf("Turned(%v) = %v, %d", l, turned, e)
		}
	}
}

// TestExamplesOfLimits: at each limit, and one more.
func TestExamplesOfLimits(t *testing.T) {
	long := "B3/S23" + strings.Repeat(" ", api.MaxText-6)
	refuses(t, long, api.ErrLife, 6) // it is read, and has its fault where it has it
	refuses(t, long+" ", api.ErrText, 0)
	for _, c := range []struct {
		h           uint8
		at, oneMore string
		greatest    int
	}{
		{api.Moore, "B8/S8", "B8/S9", 8},
		{api.Neumann, "B4/S4V", "B4/S5V", 4},
		{api.Hex, "B6/S6H", "B6/S7H", 6},
	} {
		l := rule(c.h, []int{c.greatest}, []int{c.greatest})
		reads(t, c.at, l)
		refuses(t, c.oneMore, api.ErrCount, 4)
		checks(t, l, api.OK)
		checks(t, rule(c.h, []int{c.greatest + 1}, nil), api.ErrCount)
		checks(t, rule(c.h, nil, []int{c.greatest + 1}), api.ErrCount)
		next(t, l, 0, c.greatest, 1)
		next(t, l, 1, c.greatest, 1)
		noNext(t, l, 0, c.greatest+1, api.ErrArg)
		noNext(t, l, 1, c.greatest+1, api.ErrArg)
	}
}
