package table_test

import (
	"slices"
	"testing"

	"vivarium/api"
	"vivarium/table"
)

// P10.4: the orders that a symmetry takes for one.

func TestGroupOfAllPairs(t *testing.T) {
	for _, p := range pairs() {
		if got := mustGroup(t, p); !lists(got, modelGroup(p)) {
			t.Errorf("Group(%d, %d) is not the model's: %d orders", p.symmetry, p.hood, len(got))
		}
	}
}

func TestGroupRises(t *testing.T) {
	counts := map[pair]int{
		{0, 1}: 1, {0, 2}: 1, {0, 3}: 1, {1, 1}: 4, {1, 2}: 4, {2, 1}: 8, {3, 1}: 2, {3, 2}: 2, {4, 1}: 8, {4, 2}: 8, {5, 1}: 16,
		{6, 1}: 40320, {6, 2}: 24, {6, 3}: 720, {7, 3}: 2, {8, 3}: 3, {9, 3}: 6, {10, 3}: 12,
	}
	if len(counts) != len(pairs()) {
		t.Error(len(counts))
	}
	for p, count := range counts {
		orders := mustGroup(t, p)
		if len(orders) != count {
			t.Errorf("Group(%d, %d): %d orders, not %d", p.symmetry, p.hood, len(orders), count)
		}
		for i, g := range orders {
			if i > 0 && slices.Compare(orders[i-1], g) >= 0 {
				t.Errorf("Group(%d, %d): %v behind %v", p.symmetry, p.hood, g, orders[i-1])
			}
			if len(g) != sizes[p.hood] {
				t.Errorf("Group(%d, %d): %v", p.symmetry, p.hood, g)
			}
			all := slices.Sorted(slices.Values(g))
			for n := range all {
				if all[n] != n {
					t.Errorf("Group(%d, %d): %v", p.symmetry, p.hood, g)
				}
			}
		}
	}
}

// TestGroupByHand: the orders written out.
func TestGroupByHand(t *testing.T) {
	for p, want := range map[pair][][]int{
		{api.SymNone, api.Hex}:        {{0, 1, 2, 3, 4, 5}},
		{api.SymRotate4, api.Moore}:   {{0, 1, 2, 3, 4, 5, 6, 7}, {2, 3, 4, 5, 6, 7, 0, 1}, {4, 5, 6, 7, 0, 1, 2, 3}, {6, 7, 0, 1, 2, 3, 4, 5}},
		{api.SymReflect, api.Moore}:   {{0, 1, 2, 3, 4, 5, 6, 7}, {0, 7, 6, 5, 4, 3, 2, 1}},
		{api.SymReflect, api.Neumann}: {{0, 1, 2, 3}, {0, 3, 2, 1}},
		{api.SymRotate4R, api.Neumann}: {
			{0, 1, 2, 3}, {0, 3, 2, 1}, {1, 0, 3, 2}, {1, 2, 3, 0}, {2, 1, 0, 3}, {2, 3, 0, 1}, {3, 0, 1, 2}, {3, 2, 1, 0},
		},
		{api.SymRotate4R, api.Moore}: {
			{0, 1, 2, 3, 4, 5, 6, 7}, {0, 7, 6, 5, 4, 3, 2, 1}, {2, 1, 0, 7, 6, 5, 4, 3}, {2, 3, 4, 5, 6, 7, 0, 1},
			{4, 3, 2, 1, 0, 7, 6, 5}, {4, 5, 6, 7, 0, 1, 2, 3}, {6, 5, 4, 3, 2, 1, 0, 7}, {6, 7, 0, 1, 2, 3, 4, 5},
		},
		{api.SymRotate2, api.Hex}: {{0, 1, 2, 3, 4, 5}, {3, 4, 5, 0, 1, 2}},
		{api.SymRotate3, api.Hex}: {{0, 1, 2, 3, 4, 5}, {2, 3, 4, 5, 0, 1}, {4, 5, 0, 1, 2, 3}},
	} {
		if got := mustGroup(t, p); !lists(got, want) {
			t.Errorf("Group(%d, %d) = %v, not %v", p.symmetry, p.hood, got, want)
		}
	}
}

// TestGroupOfAllNumbers: which error counts, of every symmetry's number and every neighbourhood's.
func TestGroupOfAllNumbers(t *testing.T) {
	for s := range 256 {
		for h := range 256 {
			p := pair{uint8(s), uint8(h)}
			want := api.OK
			switch {
			case s > 10:
				want = api.ErrSymmetry
			case h < 1 || h > 3:
				want = api.ErrHood
			case !modelSuits(p):
				want = api.ErrSymmetry
			}
			if want == api.OK && p.symmetry == api.SymPermute {
				continue
			}
			if orders, e := table.Group(p.symmetry, p.hood); e != want || (len(orders) > 0) != (want == api.OK) {
				t.Errorf("Group(%d, %d) = %v, %d, not %d", s, h, orders, e, want)
			}
		}
	}
}

// TestGroupIsTheCallersOwn: what is done to one order, up to the end of its spare room, is not seen in another, nor in what is answered next.
func TestGroupIsTheCallersOwn(t *testing.T) {
	for _, p := range pairs() {
		first, second := mustGroup(t, p), mustGroup(t, p)
		for i, g := range first {
			room := g[:cap(g)]
			for j := range room {
				room[j] = -1 - i
			}
		}
		for i, g := range first {
			for _, n := range g[:cap(g)] {
				if n != -1-i {
					t.Fatalf("Group(%d, %d): the orders share memory", p.symmetry, p.hood)
				}
			}
		}
		clear(first[:cap(first)])
		if !lists(second, modelGroup(p)) || !lists(mustGroup(t, p), modelGroup(p)) {
			t.Errorf("Group(%d, %d): what was done to an answer is seen in another", p.symmetry, p.hood)
		}
	}
}
