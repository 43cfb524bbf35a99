package packed_test

import (
	"slices"
	"sync"
	"testing"

	"vivarium/api"
	"vivarium/field"
	"vivarium/packed"
)

// P16.2's 'another field' and 'f stays as it is', and DOC.md's 'Memory'.

// roomy is a row with spare room behind its words that a call must not touch.
func roomy(bits []bool) api.Row {
	r := rowOf(bits)
	r.Words = append(r.Words, 0xdead, 0xbeef)[:len(r.Words)]
	return r
}

// whole are a row's words and the spare room behind them.
func whole(r api.Row) []uint64 { return r.Words[:cap(r.Words)] }

// TestLineOnlyReads: the rows stay as they are, their spare room included; written over behind the call they change no answer, nor does the answer change them.
func TestLineOnlyReads(t *testing.T) {
	d := dice(67)
	for _, l := range allRules() {
		for _, n := range []int{3, 64, 65, 66, 67, 131} {
			rows := [3]api.Row{roomy(d.bits(n, 2)), roomy(d.bits(n, 2)), roomy(d.bits(n, 2))}
			var before [3][]uint64
			for i, r := range rows {
				before[i] = slices.Clone(whole(r))
			}
			answer := mustLine(t, l, rows[0], rows[1], rows[2])
			said := slices.Clone(answer.Words)
			for i, r := range rows {
				if !slices.Equal(whole(r), before[i]) {
					t.Errorf("%v: row %d of %d bits was changed", l, i, n)
				}
				for j := range whole(r) {
					whole(r)[j] += 0x5555
				}
			}
			if !slices.Equal(answer.Words, said) {
				t.Errorf("%v: the answer shares memory with a row of %d bits", l, n)
			}
			for i := range whole(answer) {
				whole(answer)[i] += 0x3333
			}
			for i, r := range rows {
				for j, w := range whole(r) {
					if w != before[i][j]+0x5555 {
						t.Errorf("%v: row %d of %d bits shares memory with the answer", l, i, n)
					}
				}
			}
		}
	}
}

// TestLineLeavesWhatItRefuses: rows stay as they are beside each error.
func TestLineLeavesWhatItRefuses(t *testing.T) {
	d := dice(71)
	for _, sizes := range [][3]int{{3, 3, 3}, {2, 2, 2}, {70, 71, 70}, {64, 64, 63}} {
		rows := [3]api.Row{roomy(d.bits(sizes[0], 2)), roomy(d.bits(sizes[1], 2)), roomy(d.bits(sizes[2], 2))}
		before := [3][]uint64{slices.Clone(whole(rows[0])), slices.Clone(whole(rows[1])), slices.Clone(whole(rows[2]))}
		packed.Line(api.Life{}, rows[0], rows[1], rows[2])
		packed.Line(conway(), rows[0], rows[1], rows[2])
		for i, r := range rows {
			if !slices.Equal(whole(r), before[i]) {
				t.Errorf("row %d of %v was changed", i, sizes)
			}
		}
	}
}

// TestLineOfOneRowThreeTimes: the three may be one row in one memory.
func TestLineOfOneRowThreeTimes(t *testing.T) {
	d := dice(73)
	for _, l := range allRules() {
		for _, n := range []int{3, 66, 130} {
			bits := d.bits(n, 2)
			r := rowOf(bits)
			first, again := mustLine(t, l, r, r, r), mustLine(t, l, r, r, r)
			if got, want := bitsOf(first), modelLine(l, [3][]bool{bits, bits, bits}); !slices.Equal(got, want) {
				t.Errorf("%v of %d bits: %v, not %v", l, n, short(got), short(want))
			}
			said := slices.Clone(again.Words)
			clear(first.Words)
			if !slices.Equal(again.Words, said) {
				t.Errorf("%v of %d bits: two answers share memory", l, n)
			}
		}
	}
}

// changes are ways to change a field of two states.
func changes() map[string]func(*field.Field) {
	return map[string]func(*field.Field){
		"Set": func(f *field.Field) {
			state, _ := f.Get(0, 0)
			f.Set(0, 0, 1-state)
		},
		"Lay": func(f *field.Field) {
			line, _ := f.Line(f.H() - 1)
			for x := range line {
				line[x] = 1 - line[x]
			}
			f.Lay(f.H()-1, line)
		},
		"Clear": func(f *field.Field) { f.Clear() },
		"Pack":  func(f *field.Field) { f.Pack(!f.Packed()) },
	}
}

// changesAlone changes one field and looks whether another stays as it is.
func changesAlone(t *testing.T, name string, change func(*field.Field), one, other *field.Field) {
	t.Helper()
	cells, bits := cellsOf(t, other), other.Packed()
	change(one)
	if !slices.Equal(cellsOf(t, other), cells) || other.Packed() != bits {
		t.Fatalf("%s of one field changed the other", name)
	}
}

// TestRunAnswersAnotherField: with 0 generations too, and where nothing changes; either one is changed behind the call, and the other stays; so do two answers of one call.
func TestRunAnswersAnotherField(t *testing.T) {
	d := dice(79)
	still := api.Life{Hood: api.Moore, Stay: upTo(api.Moore)} // what lives stays, nothing is born
	for _, l := range append(fewRules(), still) {
		for _, a := range slices.Concat(someOf(1, 1), someOf(3, 2), someOf(65, 2)) {
			for _, n := range []int{0, 1, 2} {
				for _, bits := range []bool{false, true} {
					for name, change := range changes() {
						f := made(t, a.W, a.H, 2, bits, d.cells(a.W*a.H))
						changesAlone(t, name, change, f, mustRun(t, l, a, f, n))
						changesAlone(t, name, change, mustRun(t, l, a, f, n), f)
						changesAlone(t, name, change, mustRun(t, l, a, f, n), mustRun(t, l, a, f, n))
					}
				}
			}
		}
	}
}

// TestRunsBesideEachOther: calls that share a field and rows, in several goroutines, answer what each answers alone.
func TestRunsBesideEachOther(t *testing.T) {
	d := dice(83)
	a := api.Topo{Kind: api.Sphere, W: 9, H: 9}
	for i, l := range fewRules() {
		cells := d.cells(81)
		f := made(t, 9, 9, 2, i%2 == 0, cells)
		want := made(t, 9, 9, 2, true, modelRun(l, a, cells, 4))
		bits := d.bits(70, 2)
		r := rowOf(bits)
		line := modelLine(l, [3][]bool{bits, bits, bits})
		var all sync.WaitGroup
		for range 8 {
			all.Go(func() {
				if g, e := packed.Run(l, a, f, 4); e != api.OK || !g.Same(want) {
					t.Errorf("%v: another answer beside others, %d", l, e)
				}
				if got, e := packed.Line(l, r, r, r); e != api.OK || !slices.Equal(bitsOf(got), line) {
					t.Errorf("%v: another row beside others, %d", l, e)
				}
			})
		}
		all.Wait()
	}
}
