package rule_test

import (
	"math"
	"slices"
	"testing"

	"vivarium/api"
	"vivarium/rule"
)

// P12.6: Keeps.

// modelKeeps tells whether a rule that may be says the same of neighbours as they are seen by a part.
func modelKeeps(r api.Rule, part int) bool {
	if _, is := seen(hoodOf(r), part, make([]uint8, sizeOf(r))); !is {
		return false
	}
	for centre := range uint8(statesOf(r)) {
		for around := range everyRow(statesOf(r), sizeOf(r)) {
			turned, _ := seen(hoodOf(r), part, around)
			if modelNext(r, centre, around) != modelNext(r, centre, turned) {
				return false
			}
		}
	}
	return true
}

func TestKeepsParts(t *testing.T) {
	d := dice(13)
	for _, r := range []api.Rule{born(t, "B3/S23H"), fading(api.Neumann, 3), ruleT(), ruleW(), fading(api.Moore, 256), tabled(api.Table{States: 256, Hood: api.Hex}), d.table(pair{0, api.Moore}, 4, 3, outAny)} {
		for _, part := range []int{-1, 8, 9, -8, math.MaxInt, math.MinInt} {
			if is, e := rule.Keeps(r, part); is || e != api.ErrPart {
				t.Errorf("Keeps(%v, %d): %v, %d", brief(r), part, is, e)
			}
		}
	}
}

// TestKeepsCounts: what only counts keeps each part that its neighbourhood does.
func TestKeepsCounts(t *testing.T) {
	d := dice(15)
	for range 100 {
		for _, h := range hoods {
			r := d.counts(h)
			for part := range 8 {
				if want := h != api.Hex || slices.Contains([]int{0, 2, 5, 7}, part); mustKeep(t, r, part) != want {
					t.Errorf("Keeps(%v, %d) is not %v", r, part, want)
				}
			}
		}
	}
}

// TestKeepsTables holds tables of each symmetry, many and few lines long, against the model.
func TestKeepsTables(t *testing.T) {
	d := dice(17)
	kept, not := 0, 0
	for _, p := range pairs {
		for n := range 12 {
			r := d.table(p, 2+btoi(p.hood == api.Neumann)*d.below(2), 1+d.below(1+n/2), n%4)
			for part := range 8 {
				want := modelKeeps(r, part)
				if mustKeep(t, r, part) != want {
					t.Fatalf("Keeps(%v, %d) is not %v", r, part, want)
				}
				if part > 0 {
					kept, not = kept+btoi(want), not+btoi(!want)
				}
			}
		}
	}
	if kept < 250 || not < 250 {
		t.Errorf("%d are kept, %d not", kept, not)
	}
}

// TestKeepsOneCell looks at tables that differ from one that keeps all in one row of states alone: the last centre and neighbours, or others.
func TestKeepsOneCell(t *testing.T) {
	d := dice(19)
	for _, h := range hoods {
		size := len(offsets[h])
		for range 20 {
			around := d.states(size, 3)
			for _, centre := range []uint8{0, 2} {
				one := line(append([]api.Term{st(centre)}, append(lineOf(slices.Concat([]uint8{0}, around, []uint8{0})...).Around, st(1))...)...)
				r := tabled(api.Table{States: 3, Hood: h, Rows: []api.Trans{one}})
				for part := range 8 {
					turned, is := seen(h, part, around)
					if want := is && slices.Equal(turned, around); mustKeep(t, r, part) != want {
						t.Errorf("Keeps(%v, %d) is not %v", r, part, want)
					}
				}
			}
		}
	}
}

// TestKeepsWithin: a table that names each of four neighbours alone keeps no part but 0, one that names two beside each other the reflection that exchanges them.
func TestKeepsWithin(t *testing.T) {
	for rowText, parts := range map[string][]int{
		"1000": {0, 6}, "0100": {0, 4}, "1010": {0, 2, 4, 6}, "1100": {0, 7}, "0110": {0, 5}, "1111": {0, 1, 2, 3, 4, 5, 6, 7}, "1230": {0}, "2121": {0, 2, 4, 6}, "1232": {0, 6},
	} {
		states := []uint8{0}
		for _, c := range rowText {
			states = append(states, uint8(c-'0'))
		}
		r := tabled(api.Table{States: 4, Hood: api.Neumann, Rows: []api.Trans{lineOf(append(states, 1)...)}})
		for part := range 8 {
			if mustKeep(t, r, part) != slices.Contains(parts, part) {
				t.Errorf("%s: Keeps(.., %d) is %v", rowText, part, mustKeep(t, r, part))
			}
		}
	}
}

// TestKeepsBudget looks at the most states that tables may have of each neighbourhood, at one more, and at as many as there are.
func TestKeepsBudget(t *testing.T) {
	for h, most := range map[uint8]int{api.Moore: 4, api.Neumann: 16, api.Hex: 7} {
		last := uint8(most - 1)
		size := len(offsets[h])
		one := api.Trans{Centre: st(last), Around: slices.Repeat([]api.Term{st(last)}, size), Out: st(0)}
		one.Around[0] = st(last - 1) // the north alone is another
		at := tabled(api.Table{States: most, Hood: h, Rows: []api.Trans{one}})
		for part, want := range map[int]bool{0: true, 2: false, 6: h != api.Hex, 5: false} {
			if is, e := rule.Keeps(at, part); is != want || e != api.OK {
				t.Errorf("Keeps of %d states, hood %d, part %d: %v, %d", most, h, part, is, e)
			}
		}
		for _, states := range []int{most + 1, 2 * most, 255, 256} {
			above := tabled(api.Table{States: states, Hood: h, Rows: []api.Trans{one}})
			for part := range 8 {
				want := api.ErrBudget
				if h == api.Hex && !slices.Contains([]int{0, 2, 5, 7}, part) {
					want = api.OK // the part does not keep the neighbourhood: nothing has to be asked
				}
				if is, e := rule.Keeps(above, part); is || e != want {
					t.Errorf("Keeps of %d states, hood %d, part %d: %v, %d", states, h, part, is, e)
				}
			}
			if is, e := rule.Keeps(fading(h, states), 2); !is || e != api.OK {
				t.Errorf("Keeps of %d states that fade: %v, %d", states, is, e)
			}
		}
	}
}
