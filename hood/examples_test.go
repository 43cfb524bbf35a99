package hood_test

import (
	"slices"
	"testing"

	"vivarium/api"
	"vivarium/hood"
)

// The rows of the chapter's section Examples, in their order.

func TestExamplesOfSize(t *testing.T) {
	for h, want := range map[uint8]int{1: 8, 2: 4, 3: 6} {
		if n, e := hood.Size(h); n != want || e != api.OK {
			t.Errorf("Size(%d) = %d, %d, not %d", h, n, e, want)
		}
	}
	for _, h := range []uint8{0, 4} {
		if n, e := hood.Size(h); n != 0 || e != api.ErrHood {
			t.Errorf("Size(%d) = %d, %d", h, n, e)
		}
	}
}

// perm looks at Perm of a part that keeps the neighbourhood.
func perm(t *testing.T, h uint8, part int, want ...int) {
	t.Helper()
	if list, keeps, e := hood.Perm(h, part); !slices.Equal(list, want) || !keeps || e != api.OK {
		t.Errorf("Perm(%d, %d) = %v, %v, %d, not %v", h, part, list, keeps, e, want)
	}
}

// noPerm looks at Perm of a part that does not keep the neighbourhood (OK), or that may not be.
func noPerm(t *testing.T, h uint8, part int, want api.Errno) {
	t.Helper()
	if list, keeps, e := hood.Perm(h, part); len(list) != 0 || keeps || e != want {
		t.Errorf("Perm(%d, %d) = %v, %v, %d, not %d", h, part, list, keeps, e, want)
	}
}

func TestExamplesOfPerm(t *testing.T) {
	perm(t, api.Neumann, 1, 1, 2, 3, 0)
	perm(t, api.Moore, 1, 2, 3, 4, 5, 6, 7, 0, 1)
	perm(t, api.Moore, 4, 4, 3, 2, 1, 0, 7, 6, 5)
	noPerm(t, api.Hex, 1, api.OK)
	perm(t, api.Hex, 2, 3, 4, 5, 0, 1, 2)
	perm(t, api.Hex, 5, 4, 3, 2, 1, 0, 5)
	noPerm(t, api.Moore, 8, api.ErrPart)
	noPerm(t, 9, 8, api.ErrHood)
}
