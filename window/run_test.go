package window_test

import (
	"math"
	"math/big"
	"slices"
	"testing"

	"vivarium/api"
	"vivarium/window"
)

// P19.4 and P19.5.

// wantRun is what the chapter asks of Run, one behind the other, with numbers of any size.
func wantRun(r api.Rule, t api.Topo, b api.Band, n int) api.Errno {
	if e := wantTrim(r, t, b); e != api.OK {
		return e
	}
	trimmed := livingOf(b).band(b.W)
	rows := len(trimmed.Rows)
	if n < 0 {
		return api.ErrArg
	}
	if n > 1<<50 {
		return api.ErrFar
	}
	far, by := big.NewInt(1<<40), big.NewInt(int64(n))
	first, last := big.NewInt(int64(trimmed.At)), big.NewInt(int64(trimmed.At+rows-1))
	if rows > 0 && (first.Sub(first, by).CmpAbs(far) > 0 || last.Add(last, by).CmpAbs(far) > 0) {
		return api.ErrFar
	}
	if overBudget(b.W, rows, n) {
		return api.ErrBudget
	}
	return api.OK
}

// overBudget tells whether so many rows of w columns, of a trimmed band, are too many for n generations.
func overBudget(w, rows, n int) bool {
	by := big.NewInt(int64(n))
	cells := new(big.Int).Add(big.NewInt(int64(rows)), new(big.Int).Add(by, by))
	cells.Mul(cells, big.NewInt(int64(w)))
	work := new(big.Int).Mul(cells, by)
	return cells.Cmp(big.NewInt(1<<20)) > 0 || work.Cmp(big.NewInt(1<<26)) > 0
}

// generations are numbers of generations at, about and beyond each limit.
func generations() []int {
	return []int{math.MinInt, -1 << 40, -1, 0, 1, 2, 3, 1 << 19, 1<<40 - 1, 1 << 40, 1<<40 + 1, 1 << 46, 1 << 47, 1<<50 - 1, 1 << 50, 1<<50 + 1, 1 << 62, math.MaxInt}
}

// TestRunOfAny: each error, and which counts where several would; else the band of the model.
func TestRunOfAny(t *testing.T) {
	met := map[api.Errno]int{}
	for _, r := range someRules() {
		for _, a := range someTopos() {
			for _, b := range anyBands() {
				for _, n := range generations() {
					want := wantRun(r, a, b, n)
					met[want]++
					if want != api.OK {
						refusesRun(t, r, a, b, n, want)
						continue
					}
					hasBand(t, "Run", r, a, mustRun(t, r, a, b, n), modelRun(r, a, livingOf(b), n).band(3))
				}
			}
		}
	}
	for _, e := range []api.Errno{api.OK, api.ErrArg, api.ErrBudget, api.ErrRule, api.ErrTopo, api.ErrUnbounded, api.ErrFinite, api.ErrLying, api.ErrLoud, api.ErrBand, api.ErrState, api.ErrFar} {
		if met[e] == 0 {
			t.Errorf("%d is not met", e)
		}
	}
}

// TestRunTellsCheck: Check's error counts ahead of all that is wrong with the band and with n.
func TestRunTellsCheck(t *testing.T) {
	b := api.Band{W: -1, At: math.MinInt, Rows: [][]uint8{{255}, nil}}
	for _, r := range append(append(wrongRules(), loudRules()...), conway()) {
		for _, a := range anyTopos() {
			if want := wantCheck(r, a); want != api.OK {
				refusesRun(t, r, a, b, -1, want)
			}
		}
	}
}

// TestRunOfTheModel: rules of each kind, on narrow and wide strips, of bands with empty rows at the ends and in the middle, with few generations.
func TestRunOfTheModel(t *testing.T) {
	d := dice(13)
	for _, r := range quietRules() {
		for _, w := range []int{1, 2, 3, 5, 9} {
			for _, a := range strips(w) {
				for rows := range 5 {
					b := d.band(w, d.below(21)-10, rows, statesOf(r))
					for _, n := range []int{0, 1, 2, 5} {
						hasBand(t, "Run", r, a, mustRun(t, r, a, b, n), modelRun(r, a, livingOf(b), n).band(w))
					}
				}
			}
		}
	}
}

// TestRunOfManyGenerations: soups that grow, stand or die, generation by generation.
func TestRunOfManyGenerations(t *testing.T) {
	d := dice(17)
	for _, r := range fewRules() {
		for _, a := range slices.Concat(strips(6), strips(11)) {
			b := d.band(a.W, -4, 8, statesOf(r))
			c := livingOf(b)
			for n := range 31 {
				if n%6 == 0 {
					hasBand(t, "Run", r, a, mustRun(t, r, a, b, n), c.band(a.W))
				}
				c = modelRun(r, a, c, 1)
			}
		}
	}
}

// TestRunOfWhatDies: to no rows, and At 0, however far away it was; at once, later, and with no more to do.
func TestRunOfWhatDies(t *testing.T) {
	for _, a := range strips(5) {
		for _, y := range []int{-1<<40 + 9, -3, 0, 8, 1<<40 - 9} {
			hasBand(t, "one cell", conway(), a, mustRun(t, conway(), a, band(5, y, "00100"), 1), api.Band{W: 5})
			hasBand(t, "one cell", conway(), a, mustRun(t, conway(), a, band(5, y, "00100"), 7), api.Band{W: 5})
			fades := fading(api.Moore, 0, 0, 6)
			hasBand(t, "fading", fades, a, mustRun(t, fades, a, band(5, y, "00100"), 4), band(5, y, "00500"))
			hasBand(t, "fading", fades, a, mustRun(t, fades, a, band(5, y, "00100"), 5), api.Band{W: 5})
		}
	}
}

// TestRunOfWhatStands: a block stays where it is, a blinker comes round, a glider of a wide strip moves down by one row in four generations.
func TestRunOfWhatStands(t *testing.T) {
	for _, a := range strips(6) {
		block, blinker := band(6, 3, "001100", "001100"), band(6, -2, "011100")
		for n := range 9 {
			hasBand(t, "block", conway(), a, mustRun(t, conway(), a, block, n), block)
			want := blinker
			if n%2 == 1 {
				want = band(6, -3, "001000", "001000", "001000")
			}
			hasBand(t, "blinker", conway(), a, mustRun(t, conway(), a, blinker, n), want)
		}
	}
	a := api.Topo{Kind: api.Torus, W: 9}
	hasBand(t, "glider", conway(), a, mustRun(t, conway(), a, band(9, 0, "010000000", "001000000", "111000000"), 36), band(9, 9, "010000000", "001000000", "111000000"))
}

// TestRunOfWhatGrows: what is born beside anything that lives, and stays, has a row more at each end with each generation.
func TestRunOfWhatGrows(t *testing.T) {
	r := births(api.Moore, 1<<9-2, 1<<9-1)
	for _, a := range strips(4) {
		for n := 3; n < 40; n++ {
			got := mustRun(t, r, a, band(4, 5, "1000"), n)
			if got.At != 5-n || len(got.Rows) != 2*n+1 || !slices.Equal(slices.Concat(got.Rows...), slices.Repeat([]uint8{1}, 4*(2*n+1))) {
				t.Errorf("%v, %d: %v", a, n, shortBand(got))
			}
		}
	}
}

// atEnds is a band of so many rows whose first and last row live.
func atEnds(w, y, rows int) api.Band {
	b := api.Band{W: w, At: y, Rows: make([][]uint8, rows)}
	for i := range b.Rows {
		b.Rows[i] = make([]uint8, w)
	}
	if rows > 0 {
		b.Rows[0][0], b.Rows[rows-1][w-1] = 1, 1
	}
	return b
}

// dying is a rule by which all dies at once: budgets hang on n alone.
func dying() api.Rule { return births(api.Moore, 0, 0) }

// TestRunAtTheBudgetOfCells: W * (R + 2n) at MaxCells, one row less and one more, of widths that divide it and that do not.
func TestRunAtTheBudgetOfCells(t *testing.T) {
	for _, w := range []int{1, 3, 1000, 1024, 4096, api.MaxSide - 1, api.MaxSide} {
		most := api.MaxCells / w
		for _, n := range []int{0, 1, 2, 7} {
			for rows := most - 2*n - 1; rows <= most-2*n+1; rows++ {
				b := atEnds(w, -7, rows)
				want := api.OK
				if rows > most-2*n {
					want = api.ErrBudget
				}
				got, e := window.Run(dying(), api.Topo{Kind: api.Plane, W: w}, b, n)
				if e != want {
					t.Errorf("%d rows of %d, %d generations: %d, not %d", rows, w, n, e, want)
				}
				if e == api.OK && !same(got, livingAt(b, n)) {
					t.Errorf("%d rows of %d, %d generations: %v", rows, w, n, shortBand(got))
				}
			}
		}
	}
}

// livingAt is what all comes to that dies at once.
func livingAt(b api.Band, n int) api.Band {
	if n == 0 {
		return b
	}
	return api.Band{W: b.W}
}

// TestRunAtTheBudgetOfWork: n times W * (R + 2n) at MaxWork, one row more and one less, where the cells themselves are not too many.
func TestRunAtTheBudgetOfWork(t *testing.T) {
	for _, c := range []struct{ w, n int }{{1, 65}, {1, 100}, {1, 1000}, {1, 5792}, {3, 70}, {3, 3000}, {16, 128}, {100, 90}, {1024, 65}, {1024, 128}, {1024, 181}, {4096, 70}} {
		most := api.MaxWork/(c.n*c.w) - 2*c.n
		for rows := max(0, most-1); rows <= most+1; rows++ {
			want := api.OK
			if rows > most {
				want = api.ErrBudget
			}
			b := atEnds(c.w, -3, rows)
			got, e := window.Run(dying(), api.Topo{Kind: api.Torus, W: c.w}, b, c.n)
			if e != want || e == api.OK && !same(got, livingAt(b, c.n)) {
				t.Errorf("%d rows, %v: %v, %d, not %d", rows, c, shortBand(got), e, want)
			}
		}
	}
	for _, c := range []struct {
		w, rows, n int
		want       api.Errno
	}{
		{1024, 896, 64, api.OK}, {1024, 897, 64, api.ErrBudget}, {16, 32512, 128, api.OK}, {16, 32513, 128, api.ErrBudget},
		{1, 0, 5792, api.OK}, {1, 2, 5792, api.OK}, {1, 3, 5792, api.ErrBudget}, {1, 0, 5793, api.ErrBudget},
		{65536, 0, 8, api.OK}, {65536, 1, 8, api.ErrBudget}, {65536, 0, 9, api.ErrBudget},
	} {
		if _, e := window.Run(dying(), api.Topo{Kind: api.Torus, W: c.w}, atEnds(c.w, 0, c.rows), c.n); e != c.want {
			t.Errorf("%v: %d", c, e)
		}
	}
}

// TestRunReckonsWithoutWrappingRound: bands without rows, for which no number of generations up to MaxGen is far: widths and numbers whose product wraps round to little, to 0, or below it.
func TestRunReckonsWithoutWrappingRound(t *testing.T) {
	for j := range 17 {
		for k := range 51 {
			for _, n := range []int{1<<k - 1, 1 << k, 1<<k + 1} {
				for _, w := range []int{1 << j, 1<<j + 1} {
					if w > api.MaxSide || n > api.MaxGen {
						continue
					}
					want := api.OK
					if overBudget(w, 0, n) {
						want = api.ErrBudget
					}
					got, e := window.Run(conway(), api.Topo{Kind: api.Plane, W: w}, api.Band{W: w, At: 99}, n)
					if e != want || got.At != 0 || len(got.Rows) != 0 || e == api.OK && got.W != w {
						t.Errorf("no rows of %d, %d generations: %v, %d, not %d", w, n, got, e, want)
					}
				}
			}
		}
	}
}

// TestRunTrimsAheadOfTheBudget: empty rows at the ends count for nothing; those in the middle count.
func TestRunTrimsAheadOfTheBudget(t *testing.T) {
	a := api.Topo{Kind: api.Torus, W: 1 << 15}
	b := atEnds(a.W, -20, 32)
	refusesRun(t, dying(), a, b, 1, api.ErrBudget)
	hasBand(t, "all of it", dying(), a, mustRun(t, dying(), a, b, 0), b)
	b.Rows[0], b.Rows[1] = b.Rows[2], b.Rows[0]
	refusesRun(t, dying(), a, b, 1, api.ErrBudget)
	b.Rows[1], b.Rows[2] = b.Rows[2], b.Rows[1]
	still := births(api.Moore, 0, 1)
	want := api.Band{W: a.W, At: -18, Rows: b.Rows[2:]}
	hasBand(t, "two rows less", still, a, mustRun(t, still, a, b, 1), want)
	refusesRun(t, still, a, b, 2, api.ErrBudget)
}

// TestRunTrimsAheadOfFarRows: a band whose empty rows alone would come too far goes on.
func TestRunTrimsAheadOfFarRows(t *testing.T) {
	for _, a := range strips(3) {
		still := births(api.Moore, 0, 1)
		b := band(3, api.MaxFar-4, "000", "000", "010", "000", "000")
		hasBand(t, "near the end", still, a, mustRun(t, still, a, b, 2), band(3, api.MaxFar-2, "010"))
		refusesRun(t, still, a, b, 3, api.ErrFar)
		b.At = -api.MaxFar
		hasBand(t, "near the beginning", still, a, mustRun(t, still, a, b, 2), band(3, 2-api.MaxFar, "010"))
		refusesRun(t, still, a, b, 3, api.ErrFar)
		b.Rows[2][1] = 0
		hasBand(t, "nothing", still, a, mustRun(t, still, a, b, 3000), api.Band{W: 3})
	}
}

// TestRunUpToTheFarRows: a band that just does not grow too far grows to the last row that there is.
func TestRunUpToTheFarRows(t *testing.T) {
	grows := births(api.Moore, 1<<9-2, 1<<9-1)
	for _, a := range strips(2) {
		for n := range 12 {
			got := mustRun(t, grows, a, band(2, api.MaxFar-n, "11"), n)
			if got.At != api.MaxFar-2*n || len(got.Rows) != 2*n+1 {
				t.Errorf("%v, %d: %v", a, n, shortBand(got))
			}
			refusesRun(t, grows, a, band(2, api.MaxFar-n, "11", "11"), n, api.ErrFar)
			refusesRun(t, grows, a, band(2, api.MaxFar-n+1, "11"), n, api.ErrFar)
			got = mustRun(t, grows, a, band(2, n-api.MaxFar, "11"), n)
			if got.At != -api.MaxFar || len(got.Rows) != 2*n+1 {
				t.Errorf("%v, %d: %v", a, n, shortBand(got))
			}
			refusesRun(t, grows, a, band(2, n-api.MaxFar-1, "11"), n, api.ErrFar)
		}
		refusesRun(t, grows, a, band(2, 0, "11"), api.MaxFar+1, api.ErrFar)
		refusesRun(t, grows, a, band(2, 0, "11"), api.MaxFar, api.ErrBudget)
		refusesRun(t, grows, a, band(2, 0, "11", "11"), api.MaxFar, api.ErrFar)
		refusesRun(t, grows, a, band(2, 0, "11"), api.MaxGen, api.ErrFar)
		refusesRun(t, grows, a, band(2, 0, "00"), api.MaxGen, api.ErrBudget)
		refusesRun(t, grows, a, band(2, 0, "00"), api.MaxGen+1, api.ErrFar)
	}
}

// TestRunOfManyScenes: more of them than a rule is remembered for.
func TestRunOfManyScenes(t *testing.T) {
	d := dice(19)
	fades := fading(api.Moore, 0, 0, 256) // each state but 0 becomes the next one
	a := api.Topo{Kind: api.Torus, W: 1 << 12}
	b := api.Band{W: a.W, Rows: make([][]uint8, 250)}
	want := ownBand(b)
	for i := range b.Rows {
		b.Rows[i] = d.cells(a.W, 200)
		want.Rows[i] = slices.Clone(b.Rows[i])
		for x, state := range b.Rows[i] {
			if state != 0 {
				want.Rows[i][x] += 3
			}
		}
	}
	hasBand(t, "fading", fades, a, mustRun(t, fades, a, b, 3), want)
}

// TestNextIsRunOfOne: answers and errors.
func TestNextIsRunOfOne(t *testing.T) {
	met := map[api.Errno]int{}
	look := func(r api.Rule, a api.Topo, b api.Band) {
		was := ownBand(b)
		want, refused := window.Run(r, a, b, 1)
		got, e := window.Next(r, a, b)
		if e != refused || !same(got, want) || e != api.OK && !isZero(got) || !same(b, was) {
			t.Errorf("Next(%v, %v, %v): %v, %d, not %v, %d", brief(r), a, shortBand(b), shortBand(got), e, shortBand(want), refused)
		}
		met[e]++
	}
	for _, r := range someRules() {
		for _, a := range someTopos() {
			for _, b := range anyBands() {
				look(r, a, b)
			}
		}
	}
	d := dice(23)
	for _, r := range quietRules() {
		for _, a := range strips(1 + d.below(8)) {
			look(r, a, d.band(a.W, d.below(9)-4, 4, statesOf(r)))
		}
	}
	for _, rows := range []int{13, 14, 15, 16} {
		look(dying(), api.Topo{Kind: api.Torus, W: api.MaxSide}, atEnds(api.MaxSide, 5, rows))
	}
	for _, e := range []api.Errno{api.OK, api.ErrBudget, api.ErrRule, api.ErrTopo, api.ErrUnbounded, api.ErrFinite, api.ErrLying, api.ErrLoud, api.ErrBand, api.ErrState, api.ErrFar} {
		if met[e] == 0 {
			t.Errorf("%d is not met", e)
		}
	}
}
