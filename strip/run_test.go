package strip_test

import (
	"math"
	"slices"
	"testing"

	"vivarium/api"
	"vivarium/window"
)

// P21.6.

// wantRun is what the chapter asks of Run, one behind the other; OK, where it may be ErrBudget, too. What window.Trim says is told anew.
func wantRun(r api.Rule, t api.Topo, b api.Band, n int) api.Errno {
	far := func(y int) bool { return y < -1<<40 || y > 1<<40 }
	if b.W != t.W || slices.ContainsFunc(b.Rows, func(row []uint8) bool { return len(row) != t.W }) {
		return api.ErrBand
	}
	for _, row := range b.Rows {
		if slices.ContainsFunc(row, func(state uint8) bool { return int(state) >= statesOf(r) }) {
			return api.ErrState
		}
	}
	if len(b.Rows) > 0 && (far(b.At) || far(b.At+len(b.Rows)-1)) {
		return api.ErrFar
	}
	if n < 0 {
		return api.ErrArg
	}
	if n > 1<<50 {
		return api.ErrFar
	}
	first := slices.IndexFunc(b.Rows, lives)
	if first < 0 {
		return api.OK
	}
	last := len(b.Rows) - 1
	for !lives(b.Rows[last]) {
		last--
	}
	if far(b.At+first-n) || far(b.At+last+n) {
		return api.ErrFar
	}
	if b.W*(last-first+1) > 1<<20 {
		return api.ErrBudget
	}
	return api.OK
}

// asks holds Run's error against what the chapter asks.
func (b *both) asks(band api.Band, n int) api.Errno {
	b.test.Helper()
	want := wantRun(b.sheet.rule, b.sheet.strip, band, n)
	got, e := b.sea.Run(band, n)
	if e != want && (want != api.OK || e != api.ErrBudget) || e != api.OK && !isZero(got) {
		b.wrong("Run", []any{shortBand(band), n}, shortBand(got), e, "", want)
	}
	b.count()
	return want
}

// gens are numbers of generations that may be and that may not.
func gens() []int {
	return []int{math.MinInt, -1 << 50, -1, 0, 1, 2, 5, 1 << 20, 1<<40 - 4, 1<<40 - 3, 1<<40 - 2, 1<<40 - 1, 1 << 40, 1<<40 + 1, 1 << 41, 1 << 50, 1<<50 + 1, math.MaxInt}
}

// TestRunOfAny: each error, and which counts where several would.
func TestRunOfAny(t *testing.T) {
	met := map[api.Errno]int{}
	empty := []uint8{0, 0, 0}
	for _, r := range []api.Rule{conway(), fading(api.Hex, 1<<2, 1<<1, 3), hushed(wind(api.Neumann, 0, 4))} {
		good := []uint8{0, 1, 1}
		lists := [][][]uint8{nil, {}, {empty}, {good}, {good[1:]}, {{0, 1, 1, 0}}, {{}}, {nil}, {good, nil}, {empty, good, empty}, {empty, {0, uint8(statesOf(r)), 0}}, {good, {1, 2, 4}, {1}}, {good, empty, {9, 0, 0}, good}, {{0, 0}, {0, 9, 0}}}
		for _, a := range strips(3) {
			b := newBoth(t, r, a, 500)
			for _, rows := range lists {
				for _, w := range []int{3, 2, 4, 0, -3} {
					for _, at := range []int{math.MinInt, -1<<40 - 1, -1 << 40, -1<<40 + 1, -2, 0, 1<<40 - 2, 1<<40 - 1, 1 << 40, 1<<40 + 1, math.MaxInt} {
						for _, n := range gens() {
							met[b.asks(api.Band{W: w, At: at, Rows: rows}, n)]++
						}
					}
				}
			}
		}
	}
	for _, e := range []api.Errno{api.OK, api.ErrBand, api.ErrState, api.ErrFar, api.ErrArg} {
		if met[e] == 0 {
			t.Errorf("%d is not met", e)
		}
	}
}

// TestRunNearBothEnds: bands that just reach an end, and ones that would go beyond it; a blinker comes round.
func TestRunNearBothEnds(t *testing.T) {
	for _, a := range strips(5) {
		b := newBoth(t, conway(), a, 5000)
		for _, n := range []int{0, 1, 2, 3, 100, 1 << 20, 1<<39 + 1, 1<<40 - 1, 1 << 40} {
			for _, end := range []int{-1<<40 + n, 1<<40 - n} {
				for at := max(end-1, -1<<40); at <= min(end+1, 1<<40); at++ {
					lying := band(5, at, "01110")
					want := lying
					if n%2 == 1 {
						want = band(5, at-1, "00100", "00100", "00100")
					}
					got, e := b.sea.Run(lying, n)
					isFar := at-n < -1<<40 || at+n > 1<<40
					if isFar && (e != api.ErrFar || !isZero(got)) || !isFar && (e != api.OK || !same(got, want)) {
						t.Errorf("%v: Run(%v, %d): %v, %d", a, lying, n, got, e)
					}
				}
			}
		}
		b.count()
	}
}

// TestRunTrimsAheadOfFar: empty rows at the ends may come too far, where what lives does not; the list itself must not lie too far.
func TestRunTrimsAheadOfFar(t *testing.T) {
	b := newBoth(t, conway(), api.Topo{Kind: api.Torus, W: 5}, 500)
	for _, at := range []int{1<<40 - 4, -1 << 40} {
		one := band(5, at, "00000", "00000", "01110", "00000", "00000")
		b.run(one, 1)
		b.run(one, 2)
		if b.asks(one, 3) != api.ErrFar {
			t.Error("it is not too far")
		}
	}
	b.asks(band(5, 1<<40, "01110", "00000"), 0)
	b.asks(band(5, -1<<40-1, "00000", "01110"), 0)
}

// TestRunOfNothing: bands without a living cell, at every n, in the least sea: never ErrBudget, and wherever they lie.
func TestRunOfNothing(t *testing.T) {
	for _, r := range rules() {
		for _, w := range []int{1, 3, api.MaxSide} {
			for _, a := range strips(w) {
				b := newBoth(t, r, a, 1)
				b.row(make([]uint8, w))
				for _, rows := range []int{0, 1, 2, 40} {
					band := api.Band{W: w, At: 9, Rows: slices.Repeat([][]uint8{make([]uint8, w)}, rows)}
					for _, n := range []int{0, 1, 2, 1 << 40, 1<<40 + 1, 1 << 50} {
						if got, e := b.sea.Run(band, n); e != api.OK || got.W != w || got.At != 0 || len(got.Rows) != 0 {
							t.Fatalf("%v on %v: Run of %d empty rows, %d: %v, %d", brief(r), a, rows, n, shortBand(got), e)
						}
					}
				}
				b.count()
			}
		}
	}
}

// TestRunOfNoGenerations: the band, trimmed, whatever the sea.
func TestRunOfNoGenerations(t *testing.T) {
	d := dice(61)
	for _, r := range rules() {
		for _, a := range append(strips(1), strips(7)...) {
			for _, most := range []int{1, 1000} {
				b := newBoth(t, r, a, most)
				for rows := range 8 {
					one := d.band(a.W, -5, rows, statesOf(r))
					got, e := b.run(one, 0)
					if want, f := window.Trim(r, a, one); e != api.OK || f != api.OK || !same(got, want) {
						t.Errorf("%v on %v: Run(%v, 0): %v, %d", brief(r), a, one, got, e)
					}
				}
			}
		}
	}
}

// TestRunBesideWindow: rules of each kind, of one column, two and more, each n up to 12, in seas of just as many nodes as are enough; asked once and again, and behind other calls that keep nodes and that fill the sea.
func TestRunBesideWindow(t *testing.T) {
	d := dice(67)
	for _, r := range rules() {
		for _, w := range []int{1, 2, 3, 6} {
			for _, a := range strips(w) {
				for n := range 13 {
					one := d.band(w, d.below(9)-4, 1+d.below(7), statesOf(r))
					spare, _ := enough(one, n)
					rows := d.rowsOf(a, 4, statesOf(r))
					b := newBoth(t, r, a, max(1, spare)+partsOf(r, a, rows))
					b.mustRun(one, n)
					b.mustRun(one, n)
					b.node(rows)
					for range 3 {
						b.run(d.band(w, 0, 5, statesOf(r)), d.below(20))
					}
					b.mustRun(one, n)
				}
			}
		}
	}
}

// mustRun is run, where it must answer.
func (b *both) mustRun(band api.Band, n int) api.Band {
	b.test.Helper()
	got, e := b.run(band, n)
	if e != api.OK {
		b.test.Fatalf("%v on %v, %d nodes, %d kept: Run(%v, %d): %d", brief(b.sheet.rule), b.sheet.strip, b.sheet.most, len(b.sheet.kept), shortBand(band), n, e)
	}
	return got
}

// TestRunOfMoreGenerations: n up to 80, bands of one row and of many, in seas of just as many nodes as are enough, if there may be so many.
func TestRunOfMoreGenerations(t *testing.T) {
	d := dice(71)
	for _, r := range fewRules() {
		for _, a := range strips(9) {
			for _, rows := range []int{1, 2, 3, 17, 40, 84} {
				for _, n := range []int{15, 16, 17, 31, 40, 63, 64, 80, 84} {
					one := d.band(9, -7, rows, statesOf(r))
					one.Rows[0][0], one.Rows[rows-1][0] = 1, 1
					if spare, _ := enough(one, n); spare <= api.MaxSea {
						newBoth(t, r, a, spare).mustRun(one, n)
					} else {
						newBoth(t, r, a, api.MaxSea).run(one, n)
					}
				}
			}
		}
	}
}

// TestRunAtTheEdgeOfThePromise: about as many nodes as a sea may have are just enough; high bands and wide ones, with about MaxCells cells at the end.
func TestRunAtTheEdgeOfThePromise(t *testing.T) {
	d := dice(72)
	for _, c := range []struct{ w, rows, n int }{{256, 4090, 1}, {512, 2030, 7}, {8000, 2, 60}, {65536, 14, 1}, {1, 84, 84}} {
		a := api.Topo{Kind: api.Torus, W: c.w}
		one := d.band(c.w, -9, c.rows, 2)
		one.Rows[0][0], one.Rows[c.rows-1][0] = 1, 1
		spare, is := enough(one, c.n)
		if !is || spare > api.MaxSea {
			t.Fatalf("%d columns, %d rows, %d generations: nothing is promised", c.w, c.rows, c.n)
		}
		newBoth(t, conway(), a, spare).mustRun(one, c.n)
	}
}

// TestRunFarBeyondThePromise: in the greatest sea, as many generations as window.Run can tell.
func TestRunFarBeyondThePromise(t *testing.T) {
	d := dice(73)
	for _, r := range fewRules() {
		for _, a := range strips(8) {
			b := newBoth(t, r, a, api.MaxSea)
			for _, n := range []int{100, 255, 500, 1000} {
				one := d.band(8, 3, 20, statesOf(r))
				b.mustRun(one, n)
			}
		}
	}
}

// TestRunOfWideAndHighBands: just within MaxCells, of one generation; the answer is too large where rows are born at the ends, and a row more is too large ahead of that.
func TestRunOfWideAndHighBands(t *testing.T) {
	d := dice(79)
	for _, c := range []struct{ w, rows int }{{1, 1 << 20}, {2, 1 << 19}, {3, 349525}, {1 << 10, 1 << 10}, {65536, 16}, {65535, 16}} {
		a := api.Topo{Kind: api.Torus, W: c.w}
		one := d.band(c.w, 0, c.rows+1, 2)
		one.Rows[0][0], one.Rows[c.rows-1][0], one.Rows[c.rows][0] = 1, 1, 1
		high := one
		one.Rows = one.Rows[:c.rows]
		still := mustNew(t, births(api.Moore, 0, 511), a, api.MaxSea) // what lives stays
		for _, n := range []int{1, 2, 1 << 30} {
			if got, e := still.Run(one, n); e != api.OK && (c.w > 2 || e != api.ErrBudget) || e == api.OK && !same(got, one) {
				t.Errorf("%v: %d rows, %d generations: %d rows, %d", a, c.rows, n, len(got.Rows), e)
			}
			if got, e := still.Run(high, n); e != api.ErrBudget || !isZero(got) {
				t.Errorf("%v: %d rows, %d generations: %d rows, %d", a, c.rows+1, n, len(got.Rows), e)
			}
		}
		if got, e := still.Run(high, 0); e != api.ErrBudget || !isZero(got) {
			t.Errorf("%v: %d rows: %d", a, c.rows+1, e)
		}
		high.Rows[c.rows] = make([]uint8, c.w) // an empty row at the end does not count
		if got, e := still.Run(high, 0); e != api.OK || !same(got, one) {
			t.Errorf("%v: %d rows and an empty one: %d", a, c.rows, e)
		}
	}
}

// TestRunOfTheWidestAgainAndAgain: bands of MaxSide columns, one after the other in a sea that is enough for each of them, of which all together work out more cells than one call may.
func TestRunOfTheWidestAgainAndAgain(t *testing.T) {
	a := api.Topo{Kind: api.Torus, W: api.MaxSide}
	r := births(api.Moore, 0, 511) // what lives stays
	d := dice(81)
	kinds := d.rowsOf(a, 5, 2)
	one := api.Band{W: a.W, Rows: make([][]uint8, 14)}
	spare, _ := enough(api.Band{W: a.W, Rows: slices.Repeat(kinds, 3)[:14]}, 1)
	s := mustNew(t, r, a, spare)
	for range 150 {
		for y := range one.Rows {
			one.Rows[y] = kinds[d.below(5)]
		}
		if got, e := s.Run(one, 1); e != api.OK || !same(got, one) {
			t.Fatalf("%d rows, %d", len(got.Rows), e)
		}
	}
}

// TestWhatARunMustWorkOut: a Run of which the chapter says that it is not ErrBudget works out fewer cells than MaxWork, whatever the sea: so Run may refuse at that.
func TestWhatARunMustWorkOut(t *testing.T) {
	most := 0
	for k := 2; k <= 20; k++ {
		for n := 1; (k+2)<<k*(n+1) <= api.MaxSea; n++ {
			for rows := 1; 4*(rows+2*n+4) <= 1<<k; rows++ {
				most = max(most, n*(rows+n+1)*min(api.MaxSide, api.MaxCells/(rows+2*n)))
			}
		}
	}
	if most == 0 || most >= api.MaxWork {
		t.Errorf("%d cells", most)
	}
}

// TestRunToATooHighAnswer: a row that grows by one at each end in each generation: the highest answer that may be, and the one behind it.
func TestRunToATooHighAnswer(t *testing.T) {
	for _, c := range []struct{ w, most int }{{1, 1 << 20}, {3, 349525}, {7, 149796}, {1000, 1048}, {65536, 16}} {
		s := mustNew(t, births(api.Moore, 1<<3|1<<2|1<<1, 511), api.Topo{Kind: api.Torus, W: c.w}, api.MaxSea)
		one := api.Band{W: c.w, Rows: [][]uint8{slices.Repeat([]uint8{1}, c.w)}}
		n := (c.most - 1) / 2
		got, e := s.Run(one, n)
		if e != api.OK || got.At != -n || len(got.Rows) != 2*n+1 || !slices.Equal(got.Rows[2*n], one.Rows[0]) {
			t.Errorf("%d columns, %d generations: %d rows at %d, %d", c.w, n, len(got.Rows), got.At, e)
		}
		for _, n := range []int{n + 1, n + 2, 1 << 35} {
			if got, e := s.Run(one, n); e != api.ErrBudget || !isZero(got) {
				t.Errorf("%d columns, %d generations: %d rows, %d", c.w, n, len(got.Rows), e)
			}
		}
	}
}

// TestRunOfWhatDies: no rows are left, at any n.
func TestRunOfWhatDies(t *testing.T) {
	for _, a := range strips(6) {
		b := newBoth(t, conway(), a, 3000)
		for _, n := range []int{1, 2, 3, 1 << 20, 1 << 39} {
			one := band(6, 70, "000000", "010000", "000010")
			if got, e := b.sea.Run(one, n); e != api.OK || !same(got, api.Band{W: 6}) {
				t.Errorf("%v: Run(%v, %d): %v, %d", a, one, n, got, e)
			}
		}
		b.count()
	}
}
