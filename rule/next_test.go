package rule_test

import (
	"slices"
	"testing"

	"vivarium/api"
	"vivarium/rule"
)

// P12.5: Next and Quiet.

func TestNextCounts(t *testing.T) {
	for _, r := range []api.Rule{born(t, "B3/S23"), born(t, "B0/S8"), born(t, "B24/S13V"), born(t, "B/S"), born(t, "B2/S34H"),
		fading(api.Neumann, 2), fading(api.Neumann, 3), fading(api.Neumann, 5), fading(api.Hex, 3), fading(api.Moore, 3)} {
		for centre := range uint8(r.Gens.States) {
			for around := range everyRow(r.Gens.States, sizeOf(r)) {
				if got, want := mustNext(t, r, centre, around), modelNext(r, centre, around); got != want {
					t.Fatalf("Next(%v, %d, %v): %d, not %d", r, centre, around, got, want)
				}
			}
		}
	}
	d := dice(5)
	for range 2000 {
		r := d.counts(hoods[d.below(3)])
		centre, around := uint8(d.below(r.Gens.States)), d.states(sizeOf(r), min(r.Gens.States, 2+d.below(3)))
		if got, want := mustNext(t, r, centre, around), modelNext(r, centre, around); got != want {
			t.Fatalf("Next(%v, %d, %v): %d, not %d", r, centre, around, got, want)
		}
	}
}

// TestNextFadingNeighbours: neighbours that fade count for none, whatever their state.
func TestNextFadingNeighbours(t *testing.T) {
	r := api.Rule{Kind: api.KindGens, Gens: api.Gens{Life: api.Life{Hood: api.Moore, Born: 1 << 3, Stay: 1 << 2}, States: 256}}
	for ones := range 9 {
		for state := range 256 {
			if state == 1 {
				continue
			}
			around := slices.Concat(slices.Repeat([]uint8{1}, ones), slices.Repeat([]uint8{uint8(state)}, 8-ones))
			for centre, want := range map[uint8]uint8{0: uint8(btoi(ones == 3)), 1: uint8(2 - btoi(ones == 2)), 2: 3, 254: 255, 255: 0} {
				if got := mustNext(t, r, centre, around); got != want {
					t.Fatalf("Next(.., %d, %v): %d, not %d", centre, around, got, want)
				}
			}
		}
	}
}

func TestNextTables(t *testing.T) {
	d := dice(7)
	for _, p := range pairs {
		for range 20 {
			r := d.table(p, 2+d.below(4), 6, outAny)
			for range 20 {
				centre, around := uint8(d.below(r.Table.States)), d.states(sizeOf(r), r.Table.States)
				if got, want := mustNext(t, r, centre, around), modelNext(r, centre, around); got != want {
					t.Fatalf("Next(%v, %d, %v): %d, not %d", r, centre, around, got, want)
				}
			}
		}
	}
}

// TestNextOneTable says on foot what a table says: the neighbours are told in their order, and the first line that fits counts.
func TestNextOneTable(t *testing.T) {
	r := tabled(api.Table{States: 4, Hood: api.Neumann, Vars: []api.Var{anyState("a", 4), {Name: "b", States: []uint8{2, 3}}}, Rows: []api.Trans{
		line(st(0), va(0), st(1), st(2), st(3), va(0)), // north comes out
		line(st(0), st(3), st(1), st(2), st(3), st(1)), // never: the line above fits
		line(va(1), st(0), st(0), va(1), st(0), st(0)), // the south is as the centre is, 2 or 3
	}})
	for _, x := range []struct {
		centre uint8
		around []uint8
		want   uint8
	}{
		{0, []uint8{3, 1, 2, 3}, 3}, {0, []uint8{2, 1, 2, 3}, 2}, {0, []uint8{0, 1, 2, 3}, 0}, {0, []uint8{1, 3, 2, 1}, 0},
		{2, []uint8{0, 0, 2, 0}, 0}, {3, []uint8{0, 0, 3, 0}, 0}, {3, []uint8{0, 0, 2, 0}, 3}, {1, []uint8{0, 0, 1, 0}, 1}, {3, []uint8{3, 0, 0, 0}, 3}, {3, []uint8{3, 3, 3, 3}, 3},
	} {
		if got := mustNext(t, r, x.centre, x.around); got != x.want {
			t.Errorf("Next(.., %d, %v): %d, not %d", x.centre, x.around, got, x.want)
		}
	}
}

// TestNextErrors goes through all centres, numbers of neighbours and states that may not be: the centre counts first, then how many neighbours there are, then what they are.
func TestNextErrors(t *testing.T) {
	d := dice(9)
	list := []api.Rule{born(t, "B3/S23"), born(t, "B3/S2V"), fading(api.Hex, 4), fading(api.Moore, 255), fading(api.Neumann, 256), ruleT(), ruleW(),
		tabled(api.Table{States: 256, Hood: api.Moore}), d.table(pair{api.SymPermute, api.Hex}, 5, 4, outAny)}
	for _, r := range list {
		states, size := statesOf(r), sizeOf(r)
		for _, centre := range []int{0, 1, states - 1, states, states + 1, 255} {
			for length := range size + 3 {
				for _, state := range []int{0, states - 1, states, 255} {
					for at := range max(length, 1) {
						if centre > 255 || state > 255 {
							continue
						}
						around := make([]uint8, length)
						if length > 0 {
							around[at] = uint8(state)
						}
						want := api.OK
						switch {
						case centre >= states:
							want = api.ErrState
						case length != size:
							want = api.ErrArg
						case state >= states:
							want = api.ErrState
						}
						got, e := rule.Next(r, uint8(centre), around)
						if e != want || e != api.OK && got != 0 {
							t.Errorf("Next(%v, %d, %v): %d, %d, not %d", brief(r), centre, around, got, e, want)
						}
						if e == api.OK && got != modelNext(r, uint8(centre), around) {
							t.Errorf("Next(%v, %d, %v): %d", brief(r), centre, around, got)
						}
					}
				}
			}
		}
	}
	if _, e := rule.Next(ruleW(), 0, nil); e != api.ErrArg {
		t.Errorf("without neighbours: %d", e)
	}
}

func TestQuiet(t *testing.T) {
	silent := func(r api.Rule) bool {
		next, _ := rule.Next(r, 0, make([]uint8, sizeOf(r)))
		return next == 0
	}
	woken := func(symmetry, near uint8) api.Rule {
		return tabled(api.Table{States: 3, Hood: near, Symmetry: symmetry, Rows: []api.Trans{line(append(slices.Repeat([]api.Term{st(0)}, len(offsets[near])+1), st(2))...)}})
	}
	for _, x := range []struct {
		r    api.Rule
		want bool
	}{
		{born(t, "B3/S23"), true}, {born(t, "B/S0"), true}, {born(t, "B0/S"), false}, {born(t, "B012345678/S"), false}, {born(t, "B0/SV"), false}, {born(t, "B1/S0H"), true},
		{fading(api.Moore, 9), true}, {api.Rule{Kind: api.KindGens, Gens: api.Gens{Life: api.Life{Hood: api.Hex, Born: 1}, States: 3}}, false},
		{ruleT(), true}, {ruleW(), true}, {tabled(api.Table{States: 2, Hood: api.Moore}), true},
		{woken(api.SymNone, api.Moore), false}, {woken(api.SymPermute, api.Hex), false}, {woken(api.SymReflect, api.Neumann), false},
	} {
		if is, e := rule.Quiet(x.r); is != x.want || e != api.OK {
			t.Errorf("Quiet(%v): %v, %d", x.r, is, e)
		}
	}
	loud, quiet := 0, 0
	d := dice(11)
	for range 2000 {
		r := d.counts(hoods[d.below(3)])
		if d.below(2) == 0 {
			r = d.table(pairs[d.below(len(pairs))], 2+d.below(3), 30, outAny)
		}
		is, e := rule.Quiet(r)
		if is != silent(r) || e != api.OK {
			t.Errorf("Quiet(%v): %v, %d", brief(r), is, e)
		}
		loud, quiet = loud+btoi(!is), quiet+btoi(is)
	}
	if loud < 100 || quiet < 100 {
		t.Errorf("%d loud, %d quiet", loud, quiet)
	}
}
