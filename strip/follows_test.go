package strip_test

import (
	"slices"
	"testing"

	"vivarium/api"
	"vivarium/field"
	"vivarium/step"
	"vivarium/window"
)

// P21.8, W3. That Run is window.Run and what of n and m generations comes stands in run_test.go and leaps_test.go.

// TestRowsOfPair: are those of the one and behind them those of the other.
func TestRowsOfPair(t *testing.T) {
	d := dice(157)
	for _, r := range fewRules() {
		for _, a := range append(strips(1), strips(6)...) {
			b := newBoth(t, r, a, 4000)
			ids := []int{b.node(d.rowsOf(a, 1, statesOf(r))), b.node(d.rowsOf(a, 1, statesOf(r)))}
			for range 7 {
				up, low := ids[d.below(2)], ids[d.below(2)]
				one, e := b.sea.Rows(up)
				other, f := b.sea.Rows(low)
				id, g := b.sea.Pair(up, low)
				rows, h := b.sea.Rows(id)
				if e != api.OK || f != api.OK || g != api.OK || h != api.OK || !slices.EqualFunc(rows, append(one, other...), slices.Equal) {
					t.Errorf("%v on %v: Rows of Pair(%d, %d): %v, %d, %d, %d, %d", brief(r), a, up, low, short(rows), e, f, g, h)
				}
				back, _ := b.sea.Pair(low, up)
				ids = []int{id, back}
			}
		}
	}
}

// TestRunIsTheMiddle: what Run makes of a band is what Middle makes of a node with empty rows about it.
func TestRunIsTheMiddle(t *testing.T) {
	d := dice(163)
	for _, r := range rules() {
		for _, a := range strips(4) {
			for j := range 4 {
				b := newBoth(t, r, a, api.MaxSea)
				rows := make([][]uint8, 64)
				for y := range rows {
					rows[y] = make([]uint8, 4)
				}
				one := d.band(4, 28, 8, statesOf(r))
				copy(rows[28:], one.Rows)
				id, _ := b.middle(b.node(rows), j)
				made, _ := b.sea.Rows(id)
				want, e := window.Trim(r, a, api.Band{W: 4, At: 16, Rows: made})
				if got := b.mustRun(one, 1<<j); e != api.OK || !same(got, want) {
					t.Errorf("%v on %v: Run(%v, %d): %v, not %v", brief(r), a, one, 1<<j, got, want)
				}
			}
		}
	}
}

// TestRunIsTheGrid: row for row what step.Run makes on a grid that is high enough.
func TestRunIsTheGrid(t *testing.T) {
	d := dice(167)
	for _, r := range rules() {
		for _, a := range strips(5) {
			for _, n := range []int{1, 2, 5, 12} {
				one := d.band(5, -3, 6, statesOf(r))
				grid := a
				grid.H = 2*(6+n) + 2
				f := fieldOf(t, grid, one, statesOf(r))
				f, e := step.Run(r, grid, f, n)
				if e != api.OK {
					t.Fatal(e)
				}
				got, code := mustNew(t, r, a, api.MaxSea).Run(one, n)
				if code != api.OK || !fieldOf(t, grid, got, statesOf(r)).Same(f) {
					t.Errorf("%v on %v: Run(%v, %d): %v, %d", brief(r), a, one, n, got, code)
				}
			}
		}
	}
}

// fieldOf is a grid that has a band's rows.
func fieldOf(test *testing.T, t api.Topo, b api.Band, states int) *field.Field {
	test.Helper()
	f, e := field.New(t.W, t.H, states, false)
	if e != api.OK {
		test.Fatal(e)
	}
	for i, row := range b.Rows {
		if e := f.Lay(t.H/2+b.At+i, row); e != api.OK {
			test.Fatalf("the row of the Y %d does not fit: %d", b.At+i, e)
		}
	}
	return f
}

// TestOneNumberJustIfTheSame: no two numbers are of one node.
func TestOneNumberJustIfTheSame(t *testing.T) {
	d := dice(173)
	for _, r := range fewRules() {
		for _, a := range strips(2) {
			b := newBoth(t, r, a, 3000)
			for range 300 {
				b.do(d.call(b.sheet))
			}
			seen := map[string]int{}
			for id := range b.sheet.told {
				rows, _ := b.sea.Rows(id)
				text := string(slices.Concat(rows...))
				if was, is := seen[text]; is {
					t.Errorf("%v on %v: %d and %d are one", brief(r), a, was, id)
				}
				seen[text] = id
			}
		}
	}
}
