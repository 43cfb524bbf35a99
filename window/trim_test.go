package window_test

import (
	"math"
	"slices"
	"testing"

	"vivarium/api"
	"vivarium/window"
)

// P19.2.

// wantTrim is what the chapter asks of Trim, one behind the other; no sum wraps round.
func wantTrim(r api.Rule, t api.Topo, b api.Band) api.Errno {
	if e := wantCheck(r, t); e != api.OK {
		return e
	}
	if b.W != t.W {
		return api.ErrBand
	}
	for _, row := range b.Rows {
		if len(row) != t.W {
			return api.ErrBand
		}
	}
	for _, row := range b.Rows {
		for _, state := range row {
			if int(state) >= statesOf(r) {
				return api.ErrState
			}
		}
	}
	if len(b.Rows) > 0 {
		if b.At < -api.MaxFar || b.At > api.MaxFar || len(b.Rows)-1 > api.MaxFar-b.At {
			return api.ErrFar
		}
	}
	return api.OK
}

// farPlaces are numbers at, about and beyond the ends of what is near.
func farPlaces() []int {
	return []int{math.MinInt, math.MinInt + 1, -1<<41 + 1, -1<<40 - 2, -1<<40 - 1, -1 << 40, -1<<40 + 1, -5, 0, 7, 1<<40 - 3, 1<<40 - 2, 1<<40 - 1, 1 << 40, 1<<40 + 1, math.MaxInt - 1, math.MaxInt}
}

// anyRows are lists of rows for a strip of three columns and a rule of three states: rows that may be, too short and too long ones, states that are too great, at the first and at the last place, and both.
func anyRows() [][][]uint8 {
	return [][][]uint8{
		nil, {}, drawn("000"), drawn("012"), drawn("000", "000"), drawn("000", "102", "000"), drawn("001", "000", "200"),
		{nil}, {{}}, drawn("00"), drawn("0000"), drawn("000", "00"), drawn("000", "0000", "000"), append(drawn("000"), nil),
		drawn("300"), drawn("003"), drawn("000", "003"), {{0, 255, 0}}, drawn("111", "000", "130"),
		drawn("300", "00"), drawn("00", "300"), drawn("3333"), drawn("33"), drawn("012", "003", "0000"),
	}
}

// anyBands are such rows at any place, of this width and of others.
func anyBands() []api.Band {
	var all []api.Band
	for _, w := range []int{3, 2, 4, 0, -3, math.MaxInt} {
		for _, y := range farPlaces() {
			for _, rows := range anyRows() {
				all = append(all, api.Band{W: w, At: y, Rows: rows})
			}
		}
	}
	return all
}

// someRules are rules of three states, of two and of 256, one that wakes empty space, one that may not be.
func someRules() []api.Rule {
	return []api.Rule{fading(api.Moore, 1<<2, 1<<3, 3), hushed(wind(api.Hex, 1, 3)), conway(), tabled(api.Table{States: 256, Hood: api.Neumann}), fading(api.Hex, 1, 0, 3), births(4, 1<<3, 0)}
}

// someTopos are strips of three columns, and topologies that are none.
func someTopos() []api.Topo {
	return append(strips(3), api.Topo{Kind: api.Torus, H: 3}, api.Topo{Kind: api.Plane}, api.Topo{Kind: api.Torus, W: 3, H: 3}, api.Topo{Kind: api.Cross, W: 3})
}

// TestTrimOfAny: each error, and which counts where several would; else the band trimmed.
func TestTrimOfAny(t *testing.T) {
	met := map[api.Errno]int{}
	for _, r := range someRules() {
		for _, a := range someTopos() {
			for _, b := range anyBands() {
				want := wantTrim(r, a, b)
				met[want]++
				if want != api.OK {
					refusesTrim(t, r, a, b, want)
					continue
				}
				hasBand(t, "Trim", r, a, mustTrim(t, r, a, b), livingOf(b).band(3))
			}
		}
	}
	for _, e := range []api.Errno{api.OK, api.ErrRule, api.ErrTopo, api.ErrUnbounded, api.ErrFinite, api.ErrLying, api.ErrLoud, api.ErrBand, api.ErrState, api.ErrFar} {
		if met[e] == 0 {
			t.Errorf("%d is not met", e)
		}
	}
}

// TestTrimTellsCheck: Check's error counts ahead of all that is wrong with the band.
func TestTrimTellsCheck(t *testing.T) {
	b := api.Band{W: -1, At: math.MinInt, Rows: [][]uint8{{255}, nil}}
	for _, r := range append(append(wrongRules(), loudRules()...), conway()) {
		for _, a := range anyTopos() {
			if want := wantCheck(r, a); want != api.OK {
				refusesTrim(t, r, a, b, want)
			}
		}
	}
}

// TestTrimOfLivingRows: all ways in which up to six rows are empty or not.
func TestTrimOfLivingRows(t *testing.T) {
	for _, a := range append(strips(1), strips(5)...) {
		for many := range 7 {
			for lives := range 1 << many {
				b := api.Band{W: a.W, At: -3}
				for i := range many {
					row := make([]uint8, a.W)
					row[(i*3)%a.W] = uint8(lives >> i & 1)
					b.Rows = append(b.Rows, row)
				}
				hasBand(t, "Trim", conway(), a, mustTrim(t, conway(), a, b), livingOf(b).band(a.W))
			}
		}
	}
}

// TestTrimOfOneLivingCell: at each place of a row, of each state, it lives.
func TestTrimOfOneLivingCell(t *testing.T) {
	r := tabled(api.Table{States: 256, Hood: api.Moore})
	for _, a := range strips(70) {
		for x := range a.W {
			for _, state := range []uint8{1, 2, 127, 128, 255} {
				b := api.Band{W: a.W, At: 9, Rows: [][]uint8{make([]uint8, a.W), make([]uint8, a.W), make([]uint8, a.W)}}
				b.Rows[1][x] = state
				want := api.Band{W: a.W, At: 10, Rows: [][]uint8{slices.Clone(b.Rows[1])}}
				hasBand(t, "Trim", r, a, mustTrim(t, r, a, b), want)
			}
		}
	}
}

// TestTrimTakesWhatIsOnlyJustNear: a band whose first and last rows lie at the ends, and the same one further.
func TestTrimTakesWhatIsOnlyJustNear(t *testing.T) {
	a := api.Topo{Kind: api.Plane, W: 2}
	for many := 1; many < 5; many++ {
		rows := make([][]uint8, many)
		for i := range rows {
			rows[i] = []uint8{0, 1}
		}
		for _, y := range []int{-api.MaxFar, api.MaxFar - many + 1} {
			b := api.Band{W: 2, At: y, Rows: rows}
			hasBand(t, "Trim", conway(), a, mustTrim(t, conway(), a, b), b)
		}
		for _, y := range []int{-api.MaxFar - 1, api.MaxFar - many + 2, math.MaxInt - many + 1, math.MaxInt - many + 2, math.MaxInt, math.MinInt} {
			refusesTrim(t, conway(), a, api.Band{W: 2, At: y, Rows: rows}, api.ErrFar)
		}
	}
}

// TestTrimLooksForFarRowsAheadOfTrimming: rows that are empty are rows; a band without any lies nowhere.
func TestTrimLooksForFarRowsAheadOfTrimming(t *testing.T) {
	a := api.Topo{Kind: api.Torus, W: 2}
	refusesTrim(t, conway(), a, band(2, api.MaxFar, "01", "00"), api.ErrFar)
	refusesTrim(t, conway(), a, band(2, -api.MaxFar-1, "00", "01"), api.ErrFar)
	refusesTrim(t, conway(), a, band(2, api.MaxFar+1, "00"), api.ErrFar)
	for _, y := range farPlaces() {
		hasBand(t, "Trim", conway(), a, mustTrim(t, conway(), a, api.Band{W: 2, At: y}), api.Band{W: 2})
		hasBand(t, "Trim", conway(), a, mustTrim(t, conway(), a, api.Band{W: 2, At: y, Rows: [][]uint8{}}), api.Band{W: 2})
	}
}

// TestTrimHasNoBudget: more cells than are stepped.
func TestTrimHasNoBudget(t *testing.T) {
	a := api.Topo{Kind: api.Torus, W: api.MaxSide}
	b := api.Band{W: a.W, At: 4, Rows: make([][]uint8, 40)}
	for i := range b.Rows {
		b.Rows[i] = make([]uint8, a.W)
		b.Rows[i][i] = 1
	}
	hasBand(t, "Trim", conway(), a, mustTrim(t, conway(), a, b), b)
	refusesRun(t, conway(), a, b, 0, api.ErrBudget)
}

// TestTrimOfOneRowManyTimes: rows that are all one list make a band of great height; where nothing lives, nothing of it is answered, or made.
func TestTrimOfOneRowManyTimes(t *testing.T) {
	a := api.Topo{Kind: api.Plane, W: 1 << 10}
	rows := make([][]uint8, 1<<18)
	empty := make([]uint8, a.W)
	for i := range rows {
		rows[i] = empty
	}
	rows[77] = slices.Clone(empty)
	rows[77][1] = 1
	b := api.Band{W: a.W, At: -70, Rows: rows}
	hasBand(t, "Trim", conway(), a, mustTrimOnce(t, conway(), a, b), api.Band{W: a.W, At: 7, Rows: rows[77:78]})
	hasBand(t, "Run", births(api.Moore, 0, 1), a, mustRunOnce(t, births(api.Moore, 0, 1), a, b, 3), api.Band{W: a.W, At: 7, Rows: rows[77:78]})
}

// mustTrimOnce and mustRunOnce make no copy of what they hand in.
func mustTrimOnce(test *testing.T, r api.Rule, t api.Topo, b api.Band) api.Band {
	test.Helper()
	got, e := window.Trim(r, t, b)
	if e != api.OK {
		test.Fatalf("Trim: %d", e)
	}
	return got
}

func mustRunOnce(test *testing.T, r api.Rule, t api.Topo, b api.Band, n int) api.Band {
	test.Helper()
	got, e := window.Run(r, t, b, n)
	if e != api.OK {
		test.Fatalf("Run: %d", e)
	}
	return got
}
