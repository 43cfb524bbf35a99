package window_test

import (
	"math"
	"slices"
	"testing"

	"vivarium/api"
	"vivarium/field"
	"vivarium/step"
)

// P19.3.

// modelLine is the middle one of three rows one generation later.
func modelLine(r api.Rule, t api.Topo, rows [3][]uint8) []uint8 {
	c := livingOf(api.Band{W: t.W, At: -1, Rows: rows[:]})
	next := make([]uint8, t.W)
	for x := range next {
		next[x] = c.next(r, t, x, 0)
	}
	return next
}

// hasLine holds Line of three rows against the model.
func hasLine(test *testing.T, r api.Rule, t api.Topo, rows [3][]uint8) {
	test.Helper()
	got, want := mustLine(test, r, t, rows[0], rows[1], rows[2]), modelLine(r, t, rows)
	if !slices.Equal(got, want) {
		test.Errorf("Line(%v, %v, %v): %v, not %v", brief(r), t, rows, short(got), short(want))
	}
}

// three are three rows drawn at random.
func (d *dice) three(w, states int) [3][]uint8 {
	return [3][]uint8{d.cells(w, states), d.cells(w, states), d.cells(w, states)}
}

// TestLineOfAllShortRows: of one, two and three columns, each way in which they can live.
func TestLineOfAllShortRows(t *testing.T) {
	for _, r := range append(quietRules(), conway()) {
		if statesOf(r) > 2 {
			continue
		}
		for w := 1; w <= 3; w++ {
			for _, a := range strips(w) {
				for bits := range 1 << (3 * w) {
					var rows [3][]uint8
					for i := range 3 * w {
						rows[i/w] = append(rows[i/w], uint8(bits>>i&1))
					}
					hasLine(t, r, a, rows)
				}
			}
		}
	}
}

// TestLineOfAnyStates: rules of each kind, neighbourhood, symmetry and number of states, on narrow and wide strips.
func TestLineOfAnyStates(t *testing.T) {
	d := dice(5)
	for _, r := range quietRules() {
		for _, w := range []int{1, 2, 3, 4, 7, 64, 65} {
			for _, a := range strips(w) {
				for range 1 + 20/w {
					hasLine(t, r, a, d.three(w, statesOf(r)))
				}
			}
		}
	}
}

// TestLineOfOneLivingCell: each place of the three rows is seen from where it is a neighbour, over the ends on a Torus, and from nowhere else.
func TestLineOfOneLivingCell(t *testing.T) {
	for near := range offsets {
		for number := range offsets[near] {
			r := wind(near, number, 3)
			for w := 1; w <= 6; w++ {
				for _, a := range strips(w) {
					for i := range 3 * w {
						rows := [3][]uint8{make([]uint8, w), make([]uint8, w), make([]uint8, w)}
						rows[i/w][i%w] = 2
						want := make([]uint8, w)
						from := offsets[near][number]
						x := i%w - from.X
						if a.Kind == api.Torus {
							x = (x + w) % w
						}
						if i/w-1 == from.Y && 0 <= x && x < w {
							want[x] = 2
						}
						if got := mustLine(t, r, a, rows[0], rows[1], rows[2]); !slices.Equal(got, want) {
							t.Errorf("the neighbour %d of %d on %v, of %v: %v, not %v", number, near, a, rows, got, want)
						}
					}
				}
			}
		}
	}
}

// TestLineOfTheWidest: rows of MaxSide states beside a grid of three rows, whose middle one sees all three.
func TestLineOfTheWidest(t *testing.T) {
	d := dice(7)
	for _, r := range []api.Rule{conway(), fading(api.Hex, 1<<2, 1<<3, 5), wind(api.Moore, 1, 3)} {
		for _, a := range strips(api.MaxSide) {
			rows := d.three(a.W, statesOf(r))
			f, _ := field.New(a.W, 3, statesOf(r), false)
			for y, row := range rows {
				f.Lay(y, row)
			}
			grid := a
			grid.H = 3
			g, e := step.Next(r, grid, f)
			want, _ := g.Line(1)
			if got := mustLine(t, r, a, rows[0], rows[1], rows[2]); e != api.OK || !slices.Equal(got, want) {
				t.Errorf("%v on %v: %v, not %v", brief(r), a, short(got), short(want))
			}
		}
	}
}

// wantLine is what the chapter asks of Line, one behind the other.
func wantLine(r api.Rule, t api.Topo, rows [3][]uint8) api.Errno {
	if e := wantCheck(r, t); e != api.OK {
		return e
	}
	for _, row := range rows {
		if len(row) != t.W {
			return api.ErrBand
		}
	}
	for _, state := range slices.Concat(rows[:]...) {
		if int(state) >= statesOf(r) {
			return api.ErrState
		}
	}
	return api.OK
}

// TestLineOfAny: each error, and which counts where several would.
func TestLineOfAny(t *testing.T) {
	met := map[api.Errno]int{}
	choice := append(drawn("000", "012", "300", "003", "00", "33", "0000", "0003"), nil, []uint8{}, []uint8{0, 255, 0})
	for _, r := range someRules() {
		for _, a := range someTopos() {
			for _, above := range choice {
				for _, here := range choice {
					for _, below := range choice {
						rows := [3][]uint8{above, here, below}
						want := wantLine(r, a, rows)
						met[want]++
						if want == api.OK {
							hasLine(t, r, a, rows)
						} else {
							refusesLine(t, r, a, rows, want)
						}
					}
				}
			}
		}
	}
	for _, e := range []api.Errno{api.OK, api.ErrRule, api.ErrTopo, api.ErrUnbounded, api.ErrFinite, api.ErrLying, api.ErrLoud, api.ErrBand, api.ErrState} {
		if met[e] == 0 {
			t.Errorf("%d is not met", e)
		}
	}
}

// TestLineTellsCheck: Check's error counts ahead of all that is wrong with the rows.
func TestLineTellsCheck(t *testing.T) {
	for _, r := range append(append(wrongRules(), loudRules()...), conway()) {
		for _, a := range anyTopos() {
			if want := wantCheck(r, a); want != api.OK {
				refusesLine(t, r, a, [3][]uint8{{255}, nil, {0, 0}}, want)
			}
		}
	}
}

// TestLineAtTheGreatestStates: the last state that a rule has, and one more.
func TestLineAtTheGreatestStates(t *testing.T) {
	for _, states := range []int{2, 3, 17, 255, 256} {
		for _, r := range []api.Rule{fading(api.Moore, 1<<2, 1<<3, states), tabled(api.Table{States: states, Hood: api.Hex})} {
			for _, a := range strips(4) {
				for i := range 12 {
					for state := states - 1; state <= min(states, math.MaxUint8); state++ {
						rows := [3][]uint8{make([]uint8, 4), make([]uint8, 4), make([]uint8, 4)}
						rows[i/4][i%4] = uint8(state)
						if state < states {
							hasLine(t, r, a, rows)
						} else {
							refusesLine(t, r, a, rows, api.ErrState)
						}
					}
				}
			}
		}
	}
}
