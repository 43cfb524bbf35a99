package hood_test

import (
	"slices"
	"testing"

	"vivarium/api"
	"vivarium/hood"
)

// P7.1: Offsets and Size.

func TestOffsetsAreTheTables(t *testing.T) {
	for _, h := range all {
		if list := mustOffsets(t, h); !slices.Equal(list, table[h]) {
			t.Errorf("Offsets(%d) = %v, not %v", h, list, table[h])
		}
		if n := mustSize(t, h); n != len(table[h]) {
			t.Errorf("Size(%d) = %d, not %d", h, n, len(table[h]))
		}
	}
}

// TestMooreAndNeumannGoRoundByEast: each offset is the one ahead of it, turned right by an eighth or by a quarter.
func TestMooreAndNeumannGoRoundByEast(t *testing.T) {
	for _, h := range []uint8{api.Moore, api.Neumann} {
		list := mustOffsets(t, h)
		if list[0] != at(0, -1) {
			t.Errorf("%d begins with %v", h, list[0])
		}
		quarter := len(list) / 4
		for i, p := range list {
			if q := list[(i+quarter)%len(list)]; q != at(-p.Y, p.X) {
				t.Errorf("%d: a quarter behind %v there is %v", h, p, q)
			}
			q := list[(i+1)%len(list)]
			if p.X*q.Y-p.Y*q.X <= 0 {
				t.Errorf("%d: %v is not to the right of %v", h, q, p)
			}
		}
	}
}

func TestHexIsMooreWithoutTwo(t *testing.T) {
	moore := mustOffsets(t, api.Moore)
	without := slices.DeleteFunc(moore, func(p api.Point) bool { return p == at(1, -1) || p == at(-1, 1) })
	if list := mustOffsets(t, api.Hex); !slices.Equal(list, without) {
		t.Errorf("%v, not %v", list, without)
	}
}

func TestNoNeighbourhoodHasNoOffsets(t *testing.T) {
	wrong := none()
	if len(wrong) != 253 {
		t.Fatal(len(wrong))
	}
	for _, h := range wrong {
		if list, e := hood.Offsets(h); len(list) != 0 || e != api.ErrHood {
			t.Errorf("Offsets(%d) = %v, %d", h, list, e)
		}
		if n, e := hood.Size(h); n != 0 || e != api.ErrHood {
			t.Errorf("Size(%d) = %d, %d", h, n, e)
		}
	}
}
