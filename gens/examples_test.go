package gens_test

import (
	"testing"

	"vivarium/api"
)

// The rows of the chapter's section Examples, in their order.

var first = api.Gens{Life: api.Life{Hood: api.Moore, Born: 0x0004, Stay: 0x0038}, States: 4}

func TestExamplesOfParse(t *testing.T) {
	for _, s := range []string{"B2/S345/C4", "b2/s543/04", "B2/S345/g4", "345/2/4", "345/2/C4"} {
		reads(t, s, first)
	}
	reads(t, "B2/S34H/5", api.Gens{Life: api.Life{Hood: api.Hex, Born: 0x0004, Stay: 0x0018}, States: 5})
	refuses(t, "B2/S345", api.ErrGens, 7)
	refuses(t, "B2/S345/", api.ErrGens, 8)
	refuses(t, "B2/S345/C", api.ErrGens, 9)
	refuses(t, "B2/S345/C1", api.ErrGens, 9)
	refuses(t, "B2/S345/C257", api.ErrGens, 9)
	refuses(t, "B2/S345/C4 ", api.ErrGens, 10)
	refuses(t, "B2", api.ErrLife, 2)
	refuses(t, "B22/S/4", api.ErrTwice, 2)
	refuses(t, "B9/S/x", api.ErrCount, 1)
	refuses(t, "B2/S3x/4", api.ErrLife, 5)
	refuses(t, "", api.ErrLife, 0)
	refuses(t, "34", api.ErrLife, 2)
	refuses(t, "33/2/4", api.ErrTwice, 1)
	refuses(t, "39/2/4", api.ErrCount, 1)
	refuses(t, "3/2", api.ErrLife, 3)
	refuses(t, "3/2/", api.ErrGens, 4)
	refuses(t, "x", api.ErrLife, 0)
}

func TestExamplesOfPrintAndCheck(t *testing.T) {
	prints(t, first, "B2/S345/C4")
	checks(t, api.Gens{Life: first.Life, States: 1}, api.ErrGens)
	checks(t, api.Gens{Life: first.Life, States: 257}, api.ErrGens)
	checks(t, api.Gens{Life: api.Life{Hood: 9}, States: 1}, api.ErrHood)
}

func TestExamplesOfNext(t *testing.T) {
	next(t, first, 0, 2, 1)
	next(t, first, 0, 3, 0)
	next(t, first, 1, 3, 1)
	next(t, first, 1, 2, 2)
	next(t, first, 2, 8, 3)
	next(t, first, 3, 2, 0)
	noNext(t, first, 4, 0, api.ErrState)
	noNext(t, first, 0, 9, api.ErrArg)
	next(t, mustParse(t, "B3/S23/C2"), 1, 1, 0)
}
