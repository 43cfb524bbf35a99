package hood_test

import (
	"slices"
	"testing"

	"vivarium/api"
	"vivarium/hood"
)

// P7.4: what follows of the others.

func TestOffsetsHaveTheirOpposites(t *testing.T) {
	for _, h := range all {
		list := mustOffsets(t, h)
		for i, p := range list {
			if !slices.Contains(list, at(-p.X, -p.Y)) {
				t.Errorf("%d: nothing is opposite to %v", h, p)
			}
			if slices.Index(list, p) != i {
				t.Errorf("%d: %v stands twice", h, p)
			}
		}
	}
}

func TestOffsetsLieOneStepAround(t *testing.T) {
	for _, h := range all {
		for _, p := range mustOffsets(t, h) {
			if p == at(0, 0) || max(p.X, -p.X, p.Y, -p.Y) != 1 {
				t.Errorf("%d: %v", h, p)
			}
		}
	}
}

func TestPermHasEachNumberOnce(t *testing.T) {
	for _, h := range all {
		var count []int
		for n := range mustSize(t, h) {
			count = append(count, n)
		}
		for _, part := range mustParts(t, h) {
			list := mustPerm(t, h, part)
			if slices.Sort(list); !slices.Equal(list, count) {
				t.Errorf("Perm(%d, %d), sorted: %v", h, part, list)
			}
		}
	}
}

// together is the part that does what a does and b behind it, found by what they do to a place that no two parts take to one.
func together(a, b int) int {
	p := linear[a](1, 2)
	p = linear[b](p.X, p.Y)
	return slices.IndexFunc(linear, func(f func(x, y int) api.Point) bool { return f(1, 2) == p })
}

func TestPermOfTwoPartsOneBehindTheOther(t *testing.T) {
	pairs, kept := 0, 0
	for _, h := range all {
		for a := range linear {
			for b := range linear {
				pairs++
				first, is, _ := hood.Perm(h, a)
				second, too, _ := hood.Perm(h, b)
				if is != too { // one that keeps the neighbourhood does not make good what the other did
					noPerm(t, h, together(a, b), api.OK)
				}
				if !is || !too {
					continue
				}
				kept++
				var want []int
				for _, n := range first {
					want = append(want, second[n])
				}
				perm(t, h, together(a, b), want...)
			}
		}
	}
	if pairs != 3*64 || kept != 64+64+16 {
		t.Error(pairs, kept)
	}
}

// TestOnlyOnePartLeavesAll: no two parts do the same to a neighbourhood.
func TestOnlyOnePartLeavesAll(t *testing.T) {
	for _, h := range all {
		var seen [][]int
		for _, part := range mustParts(t, h) {
			list := mustPerm(t, h, part)
			if slices.ContainsFunc(seen, func(other []int) bool { return slices.Equal(other, list) }) {
				t.Errorf("Perm(%d, %d) = %v as of an earlier part", h, part, list)
			}
			seen = append(seen, list)
		}
	}
}
