package hood_test

import (
	"slices"
	"testing"

	"vivarium/api"
)

// Lists that are answered are the caller's own: what is done to one is not seen in the next, nor in any other.

// own asks for a list, spoils it up to the end of its spare room, and asks again.
func own[T comparable](t *testing.T, name string, junk T, ask func() []T) {
	t.Helper()
	first := ask()
	want := slices.Clone(first)
	second := ask()
	room := first[:cap(first)]
	for i := range room {
		room[i] = junk
	}
	_ = append(first, junk, junk)
	if !slices.Equal(second, want) {
		t.Errorf("%s: asked twice, the second list came to be %v, not %v", name, second, want)
	}
	if third := ask(); !slices.Equal(third, want) {
		t.Errorf("%s: asked again, it is %v, not %v", name, third, want)
	}
}

func TestListsAreTheCallersOwn(t *testing.T) {
	junk := at(77, 77)
	for _, h := range all {
		own(t, "Offsets", junk, func() []api.Point { return mustOffsets(t, h) })
		own(t, "Parts", 77, func() []int { return mustParts(t, h) })
		for _, part := range keeping[h] {
			own(t, "Perm", 77, func() []int { return mustPerm(t, h, part) })
		}
	}
	TestOffsetsAreTheTables(t)
	TestPermIsWhatThePartDoesToThePlaces(t)
	TestPartsAreThoseThatKeep(t)
}

// TestWhatIsAnsweredIsWhole: nothing of what was answered for one neighbourhood is written over by asking for another.
func TestWhatIsAnsweredIsWhole(t *testing.T) {
	moore, perm, parts := mustOffsets(t, all[0]), mustPerm(t, all[0], 1), mustParts(t, all[0])
	for _, h := range all[1:] {
		mustOffsets(t, h)
		mustParts(t, h)
		mustPerm(t, h, 2)
	}
	if !slices.Equal(moore, table[all[0]]) || !slices.Equal(perm, []int{2, 3, 4, 5, 6, 7, 0, 1}) || !slices.Equal(parts, keeping[all[0]]) {
		t.Error(moore, perm, parts)
	}
}
