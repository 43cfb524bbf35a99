package hood_test

import (
	"slices"
	"testing"

	"vivarium/api"
	"vivarium/hood"
)

// P7.2 and P7.3: Perm and Parts.

// moved has of each offset the number of the one to which the part takes it, looked up as places; false: it takes one to none.
func moved(h uint8, part int) ([]int, bool) {
	var list []int
	for _, p := range table[h] {
		n := slices.Index(table[h], linear[part](p.X, p.Y))
		if n < 0 {
			return nil, false
		}
		list = append(list, n)
	}
	return list, true
}

func TestPermIsWhatThePartDoesToThePlaces(t *testing.T) {
	kept := 0
	for _, h := range all {
		for part := range linear {
			want, is := moved(h, part)
			if !is {
				noPerm(t, h, part, api.OK)
				continue
			}
			kept++
			perm(t, h, part, want...)
		}
	}
	if kept != 8+8+4 {
		t.Error(kept)
	}
}

func TestPermOfHexUnderTurnsAndReflections(t *testing.T) {
	perm(t, api.Hex, 0, 0, 1, 2, 3, 4, 5)
	noPerm(t, api.Hex, 1, api.OK) // quarter turns: south-east comes to a corner that is no neighbour
	noPerm(t, api.Hex, 3, api.OK)
	noPerm(t, api.Hex, 4, api.OK) // up and down exchanged, left and right exchanged
	noPerm(t, api.Hex, 6, api.OK)
	perm(t, api.Hex, 5, 4, 3, 2, 1, 0, 5) // the diagonal on which two neighbours lie
	perm(t, api.Hex, 7, 1, 0, 5, 4, 3, 2) // the diagonal on which none lies
}

func TestPermOfNoPart(t *testing.T) {
	for _, part := range wrongParts {
		for _, h := range all {
			noPerm(t, h, part, api.ErrPart)
		}
	}
}

// TestPermOfNoNeighbourhood: ErrHood counts ahead of ErrPart.
func TestPermOfNoNeighbourhood(t *testing.T) {
	for _, h := range none() {
		for part := range linear {
			noPerm(t, h, part, api.ErrHood)
		}
		for _, part := range wrongParts {
			noPerm(t, h, part, api.ErrHood)
		}
	}
}

func TestPartsAreThoseThatKeep(t *testing.T) {
	for _, h := range all {
		list := mustParts(t, h)
		if !slices.Equal(list, keeping[h]) {
			t.Errorf("Parts(%d) = %v, not %v", h, list, keeping[h])
		}
		for part := range linear {
			_, keeps, e := hood.Perm(h, part)
			if keeps != slices.Contains(list, part) || e != api.OK {
				t.Errorf("Parts(%d) = %v, but Perm of %d is %v, %d", h, list, part, keeps, e)
			}
		}
	}
}

func TestPartsOfNoNeighbourhood(t *testing.T) {
	for _, h := range none() {
		if list, e := hood.Parts(h); len(list) != 0 || e != api.ErrHood {
			t.Errorf("Parts(%d) = %v, %d", h, list, e)
		}
	}
}
