package strip_test

import (
	"reflect"
	"slices"
	"sync"
	"testing"

	"vivarium/api"
	"vivarium/strip"
)

// P21.7, DOC.md's 'Memory', R2.

// spoil writes over a list and all the room behind it.
func spoil(cells []uint8) {
	for x := range cells {
		cells[x] = 99
	}
	_ = append(cells, slices.Repeat([]uint8{98}, cap(cells)-len(cells))...)
}

// spoilRows writes over rows, each by itself, and over the list of them.
func spoilRows(rows [][]uint8) {
	for i, row := range rows {
		others := ownRows(rows)
		spoil(row)
		for k, other := range rows {
			if k != i && !slices.Equal(other, others[k]) {
				panic("two rows of one answer share memory")
			}
		}
	}
	for i := range rows {
		rows[i] = []uint8{97}
	}
	_ = append(rows, slices.Repeat([][]uint8{{96}}, cap(rows)-len(rows))...)
}

// TestRowsWrittenOverBehindRow: the sea keeps what was handed in, not the list; the list and its spare room stay as they are, till they are written over.
func TestRowsWrittenOverBehindRow(t *testing.T) {
	d := dice(127)
	for _, r := range fewRules() {
		for _, a := range slices.Concat(strips(1), strips(5)) {
			b := newBoth(t, r, a, 300)
			room := d.cells(a.W+7, statesOf(r))
			for range 40 {
				was := slices.Clone(room)
				b.row(room[:a.W])
				b.row(room[:a.W])
				b.sea.Row(room[:a.W+1])
				if !slices.Equal(room, was) {
					t.Fatalf("%v on %v: what was handed in is another: %v, not %v", brief(r), a, room, was)
				}
				copy(room, d.cells(len(room), statesOf(r)))
			}
			b.look()
		}
	}
}

// TestBandsWrittenOverBehindRun: the band that was handed in, and all the room behind its lists, stay as they are; written over, they change no answer, earlier or later.
func TestBandsWrittenOverBehindRun(t *testing.T) {
	d := dice(131)
	for _, r := range fewRules() {
		for _, a := range strips(4) {
			b := newBoth(t, r, a, 5000)
			for _, n := range []int{0, 1, 2, 7, 30} {
				list := d.cells(8*4+9, statesOf(r))
				list[0], list[5*4] = 1, 1
				handed := api.Band{W: 4, At: 3}
				for y := range 8 {
					handed.Rows = append(handed.Rows, list[4*y:4*y+4]) // each has room to grow into the next
				}
				handed.Rows = handed.Rows[:6]
				was, rows := slices.Clone(list), ownRows(handed.Rows[:8])
				got := b.mustRun(handed, n)
				if !slices.Equal(list, was) || !slices.EqualFunc(handed.Rows[:8], rows, slices.Equal) {
					t.Fatalf("%v on %v: Run(.., %d) changes what was handed in", brief(r), a, n)
				}
				kept := ownBand(got)
				spoil(list)
				if !same(got, kept) {
					t.Errorf("%v on %v: Run(.., %d) answers what was handed in", brief(r), a, n)
				}
				b.mustRun(api.Band{W: 4, At: 3, Rows: rows[:6]}, n)
			}
		}
	}
}

// TestAnswersWrittenOver: rows and bands that were handed out are written over and grown, and neither the sea nor another answer changes.
func TestAnswersWrittenOver(t *testing.T) {
	d := dice(137)
	for _, r := range fewRules() {
		for _, a := range slices.Concat(strips(1), strips(4)) {
			b := newBoth(t, r, a, 20000)
			b.middle(b.node(d.rowsOf(a, 8, statesOf(r))), 1)
			one := d.band(a.W, 0, 6, statesOf(r))
			one.Rows[0][0], one.Rows[5][0] = 1, 1
			for id := range b.sheet.told {
				rows, _ := b.sea.Rows(id)
				others, _ := b.sea.Rows(id)
				was := ownRows(others)
				spoilRows(rows)
				if !slices.EqualFunc(others, was, slices.Equal) {
					t.Errorf("%v on %v: two answers of Rows(%d) share memory", brief(r), a, id)
				}
				spoilRows(others)
				b.look()
			}
			for _, n := range []int{0, 1, 2, 8} {
				got, other := b.mustRun(one, n), b.mustRun(one, n)
				was := ownBand(other)
				spoilRows(got.Rows)
				if !same(other, was) {
					t.Errorf("%v on %v: two answers of Run(.., %d) share memory", brief(r), a, n)
				}
				spoilRows(other.Rows)
				b.mustRun(one, n)
			}
			b.look()
		}
	}
}

// TestSeasDoNotKnowOfOneAnother: two of one rule and one strip, and others of other ones, number each by itself.
func TestSeasDoNotKnowOfOneAnother(t *testing.T) {
	d := dice(139)
	for _, r := range fewRules() {
		for _, a := range strips(3) {
			seas := []*both{newBoth(t, r, a, 2000), newBoth(t, r, a, 2000), newBoth(t, r, a, 9), newBoth(t, conway(), a, 2000)}
			for range 150 {
				b := seas[d.below(len(seas))]
				b.do(d.call(b.sheet))
			}
			for _, b := range seas {
				b.look()
			}
		}
	}
}

// TestTheSameCallsAgain: what a sea answers hangs on its calls alone, ErrBudget too.
func TestTheSameCallsAgain(t *testing.T) {
	for _, r := range fewRules() {
		for _, a := range strips(3) {
			for _, most := range []int{8, 40, 100, 900} {
				one, other := newBoth(t, r, a, most), newBoth(t, r, a, most)
				var codes [2][]api.Errno
				for i, b := range []*both{one, other} {
					d := dice(149)
					for range 120 {
						codes[i] = append(codes[i], b.do(d.call(b.sheet)))
					}
				}
				if !slices.Equal(codes[0], codes[1]) || !reflect.DeepEqual(one.sheet.told, other.sheet.told) {
					t.Errorf("%v on %v, %d nodes: other answers", brief(r), a, most)
				}
			}
		}
	}
}

// TestSeasBesideEachOther: seas of one rule, each in a goroutine of its own.
func TestSeasBesideEachOther(t *testing.T) {
	for _, r := range fewRules() {
		for _, a := range strips(5) {
			d := dice(151)
			one := d.band(5, 0, 9, statesOf(r))
			want := mustNew(t, r, a, 1<<16)
			var all sync.WaitGroup
			for range 6 {
				all.Go(func() {
					s, e := strip.New(r, a, 1<<16)
					if e != api.OK {
						t.Errorf("New: %d", e)
						return
					}
					for _, n := range []int{5, 40, 17} {
						if got, e := s.Run(one, n); e != api.OK || !same(got, mustAnswer(r, a, one, n)) {
							t.Errorf("%v on %v: another answer beside others: %d", brief(r), a, e)
						}
					}
				})
			}
			all.Wait()
			if want.Nodes() != 0 {
				t.Error(want.Nodes())
			}
		}
	}
}

// mustAnswer is what a new sea answers.
func mustAnswer(r api.Rule, t api.Topo, b api.Band, n int) api.Band {
	s, _ := strip.New(r, t, 1<<16)
	got, _ := s.Run(b, n)
	return got
}
