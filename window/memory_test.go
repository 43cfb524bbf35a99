package window_test

import (
	"reflect"
	"slices"
	"sync"
	"testing"

	"vivarium/api"
	"vivarium/window"
)

// DOC.md's 'Memory', the chapter's Ways, R2.

// answers are bands that calls answer of one, by the calls' names.
func answers(test *testing.T, r api.Rule, t api.Topo, b api.Band) map[string]api.Band {
	test.Helper()
	next, e := window.Next(r, t, b)
	if e != api.OK {
		test.Fatal(e)
	}
	return map[string]api.Band{"Trim": mustTrim(test, r, t, b), "Run of 0": mustRun(test, r, t, b, 0), "Run of 1": mustRun(test, r, t, b, 1), "Run of 4": mustRun(test, r, t, b, 4), "Next": next}
}

// memoryBands are bands whose rows have spare room, are cut out of one list with nothing between, or are one and the same list, and whose list of rows has spare room.
func memoryBands(d *dice, w, states int) []api.Band {
	apart, shared, one := d.band(w, -2, 5, states), d.band(w, -2, 5, states), d.band(w, -2, 5, states)
	for i, row := range apart.Rows {
		row[i%w] = 1
		apart.Rows[i] = append(slices.Clone(row), d.cells(9, states)...)[:w]
	}
	apart.Rows = append(apart.Rows, d.cells(w, states), d.cells(w, states))[:5]
	list := slices.Concat(shared.Rows...)
	for i := range shared.Rows {
		shared.Rows[i] = list[i*w : (i+1)*w]
	}
	for i := range one.Rows {
		one.Rows[i] = one.Rows[0]
	}
	return []api.Band{apart, shared, one}
}

// roomOf is all the memory of a band, spare room included.
func roomOf(b api.Band) [][]uint8 {
	var all [][]uint8
	for _, row := range b.Rows[:cap(b.Rows)] {
		all = append(all, slices.Clone(row[:cap(row)]))
	}
	return all
}

// TestHandedInStaysAsItWas: rows, their spare room, the list of rows and the rule, whatever is answered.
func TestHandedInStaysAsItWas(t *testing.T) {
	d := dice(61)
	for _, r := range quietRules() {
		for _, a := range strips(1 + d.below(6)) {
			for _, b := range memoryBands(&d, a.W, statesOf(r)) {
				before, handed := roomOf(b), copied(r)
				answers(t, handed, a, b)
				window.Line(handed, a, b.Rows[0], b.Rows[1], b.Rows[2])
				window.Run(handed, a, b, -1)
				window.Run(handed, a, b, 1<<30)
				window.Trim(handed, api.Topo{Kind: api.Plane, W: a.W + 1}, b)
				if !reflect.DeepEqual(roomOf(b), before) || !reflect.DeepEqual(handed, r) {
					t.Fatalf("%v on %v: what was handed in is another", brief(r), a)
				}
			}
		}
	}
}

// TestAnswersShareNothingWithWhatWasHandedIn: either is written over and grown, and the other stays.
func TestAnswersShareNothingWithWhatWasHandedIn(t *testing.T) {
	d := dice(67)
	still := births(api.Moore, 0, 1<<9-1) // what lives stays, nothing is born
	for _, r := range append(fewRules(), still) {
		for _, a := range slices.Concat(strips(1), strips(4)) {
			for _, b := range memoryBands(&d, a.W, statesOf(r)) {
				for name, got := range answers(t, r, a, b) {
					before := roomOf(b)
					spoil(got)
					if !reflect.DeepEqual(roomOf(b), before) {
						t.Errorf("%s: %v on %v: the answer was written over, and what was handed in is another", name, brief(r), a)
					}
				}
				for name := range answers(t, r, a, b) {
					handed := ownBand(b)
					got := answers(t, r, a, handed)[name]
					was := ownBand(got)
					spoil(handed)
					if !same(got, was) {
						t.Errorf("%s: %v on %v: what was handed in was written over, and the answer is another", name, brief(r), a)
					}
				}
			}
		}
	}
}

// grow writes into all room that is left behind a list.
func grow[T any](list []T, item T) {
	_ = append(list, slices.Repeat([]T{item}, cap(list)-len(list))...)
}

// spoil writes over a band's rows, grows each, and grows and writes over the list of rows.
func spoil(b api.Band) {
	for i, row := range b.Rows {
		for x := range row {
			row[x] = 99
		}
		grow(row, 98)
		b.Rows[i] = []uint8{97}
	}
	grow(b.Rows, []uint8{96})
}

// TestNoRowGrowsIntoAnother: each row of an answer is grown and written over by itself, and the others stay.
func TestNoRowGrowsIntoAnother(t *testing.T) {
	d := dice(71)
	for _, r := range fewRules() {
		for _, a := range slices.Concat(strips(1), strips(2), strips(5)) {
			for _, b := range memoryBands(&d, a.W, statesOf(r)) {
				for name, got := range answers(t, r, a, b) {
					for i, row := range got.Rows {
						was := ownBand(got)
						grow(row, 98)
						for x := range row {
							row[x] = 99
							was.Rows[i][x] = 99
						}
						if !same(got, was) {
							t.Fatalf("%s: %v on %v: the row %d grew into another: %v, not %v", name, brief(r), a, i, got, was)
						}
					}
				}
			}
		}
	}
}

// TestAnswersShareNothing: two answers of one call change each by itself; so do two of Line, and it keeps none of its rows.
func TestAnswersShareNothing(t *testing.T) {
	d := dice(73)
	for _, r := range fewRules() {
		for _, a := range strips(4) {
			b := d.band(a.W, 0, 3, statesOf(r))
			for name, one := range answers(t, r, a, b) {
				other := answers(t, r, a, b)[name]
				was := ownBand(other)
				spoil(one)
				if !same(other, was) {
					t.Errorf("%s: %v on %v: two answers share memory", name, brief(r), a)
				}
			}
			one, other := mustLine(t, r, a, b.Rows[0], b.Rows[1], b.Rows[2]), mustLine(t, r, a, b.Rows[0], b.Rows[1], b.Rows[2])
			was, before := slices.Clone(other), ownBand(b)
			for x := range one {
				one[x] = 99
			}
			grow(one, 98)
			if !slices.Equal(other, was) || !same(b, before) {
				t.Errorf("Line: %v on %v: the answer shares memory", brief(r), a)
			}
			spoil(b)
			if !slices.Equal(other, was) {
				t.Errorf("Line: %v on %v: the answer shares memory with what was handed in", brief(r), a)
			}
		}
	}
}

// TestLineOfOneRowThreeTimes: rows that are one list, or lie one over the other, are read as any others.
func TestLineOfOneRowThreeTimes(t *testing.T) {
	d := dice(79)
	for _, r := range quietRules() {
		for _, a := range slices.Concat(strips(1), strips(5)) {
			list := d.cells(a.W+2, statesOf(r))
			hasLine(t, r, a, [3][]uint8{list[:a.W], list[:a.W], list[:a.W]})
			hasLine(t, r, a, [3][]uint8{list[:a.W], list[1 : a.W+1], list[2:]})
		}
	}
}

// TestRulesWrittenOverBehindTheCall: nothing that is answered later hangs on the memory of a rule that was handed in.
func TestRulesWrittenOverBehindTheCall(t *testing.T) {
	d := dice(83)
	a := api.Topo{Kind: api.Torus, W: 5}
	for _, r := range quietRules() {
		b := d.band(5, 0, 4, statesOf(r))
		want := modelRun(r, a, livingOf(b), 2).band(5)
		handed := copied(r)
		got := mustRun(t, handed, a, b, 2)
		for i := range handed.Table.Rows {
			clear(handed.Table.Rows[i].Around)
		}
		clear(handed.Table.Rows)
		clear(handed.Table.Vars)
		hasBand(t, "written over", r, a, got, want)
		hasBand(t, "asked again", r, a, mustRun(t, r, a, b, 2), want)
	}
}

// TestCallsBesideEachOther: calls that share a band and a rule, in several goroutines, answer what each answers alone.
func TestCallsBesideEachOther(t *testing.T) {
	d := dice(89)
	for _, r := range fewRules() {
		for _, a := range strips(7) {
			b := d.band(7, 0, 9, statesOf(r))
			want, line := mustRun(t, r, a, b, 5), mustLine(t, r, a, b.Rows[0], b.Rows[1], b.Rows[2])
			var all sync.WaitGroup
			for range 8 {
				all.Go(func() {
					if got, e := window.Run(r, a, b, 5); e != api.OK || !same(got, want) {
						t.Errorf("%v: another answer beside others, %d", brief(r), e)
					}
					if got, e := window.Line(r, a, b.Rows[0], b.Rows[1], b.Rows[2]); e != api.OK || !slices.Equal(got, line) {
						t.Errorf("%v: another line beside others, %d", brief(r), e)
					}
				})
			}
			all.Wait()
		}
	}
}
