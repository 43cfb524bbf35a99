package strip_test

import (
	"testing"

	"vivarium/api"
	"vivarium/strip"
	"vivarium/window"
)

// P21.6, P21.8: bands that come round, in billions of generations.

// round is a band that comes round in so many generations, moved by so many rows.
type round struct {
	what        string
	rule        api.Rule
	strip       api.Topo
	band        api.Band
	period, far int
}

// rounds are bands that stand still, and such that move up and down.
func rounds() []round {
	torus := func(w int) api.Topo { return api.Topo{Kind: api.Torus, W: w} }
	plane := func(w int) api.Topo { return api.Topo{Kind: api.Plane, W: w} }
	brain := fading(api.Moore, 1<<2, 0, 3)
	return []round{
		{"a block", conway(), plane(2), band(2, -1, "11", "11"), 1, 0},
		{"a blinker that lies", conway(), torus(6), band(6, 5, "011100"), 2, 0},
		{"a blinker that stands", conway(), plane(3), band(3, 5, "010", "010", "010"), 2, 0},
		{"blinkers and a block, far apart", conway(), plane(3), band(3, 0, "010", "010", "010", "000", "000", "000", "000", "011", "011", "000", "000", "000", "010", "010", "010"), 2, 0},
		{"a glider down", conway(), torus(7), band(7, 0, "0100000", "0010000", "1110000"), 28, 7},
		{"a glider up", conway(), torus(7), band(7, -9, "1110000", "0010000", "0100000"), 28, -7},
		{"a ship along the row", conway(), torus(8), band(8, 3, "01111000", "10001000", "00001000", "10010000"), 16, 0},
		{"a ship down", conway(), plane(8), band(8, 1, "00010100", "00100000", "00100000", "00100100", "00111000"), 4, 2},
		{"a ship up", conway(), torus(9), band(9, -60, "001110000", "001001000", "001000000", "001000000", "000101000"), 4, -2},
		{"what goes down", hushed(wind(api.Neumann, 0, 3)), plane(4), band(4, 0, "0120", "0000", "2002"), 1, 1},
		{"what goes up", hushed(wind(api.Neumann, 2, 3)), torus(4), band(4, 0, "0120", "0000", "2002"), 1, -1},
		{"what goes down aslant", hushed(wind(api.Hex, 5, 3)), torus(5), band(5, 77, "01020", "10000"), 5, 5},
		{"what goes up aslant", hushed(wind(api.Moore, 5, 2)), torus(3), band(3, 0, "010", "011", "100"), 3, -3},
		{"what goes round in its row", hushed(wind(api.Neumann, 1, 4)), torus(9), band(9, 0, "010230000"), 9, 0},
		{"what fades behind itself, up", brain, torus(5), band(5, 0, "01100", "02200"), 1, -1},
		{"what fades behind itself, down", brain, plane(4), band(4, 0, "0220", "0110"), 1, 1},
		{"the full row", births(api.Neumann, 0, 1<<2|1<<4), torus(1), band(1, 0, "1"), 1, 0},
	}
}

// later is the band so many generations later, the short way: whole rounds only move it.
func (c round) later(test *testing.T, n int) api.Band {
	test.Helper()
	b, e := window.Run(c.rule, c.strip, c.band, n%c.period)
	if e != api.OK {
		test.Fatalf("%s: window: %d", c.what, e)
	}
	b.At += n / c.period * c.far
	return b
}

// times are numbers of generations, of billions and more, that come not too far.
func times() []int {
	return []int{1, 2, 3, 28, 1000, 1 << 20, 1<<20 + 1, 1<<30 - 1, 1 << 32, 12345678901, 1 << 39, 1<<39 + 7, 1000000000000, 1<<40 - 1000, 1<<40 - 101}
}

// TestRunOfBillions: each band that comes round, whole rounds and broken ones, asked of one sea in any order and of new ones.
func TestRunOfBillions(t *testing.T) {
	for _, c := range rounds() {
		moved := c.later(t, 0)
		moved.At += c.far
		if got, e := window.Run(c.rule, c.strip, c.band, c.period); e != api.OK || !same(got, moved) {
			t.Errorf("%s: it does not come round: %v, %d", c.what, got, e)
			continue
		}
		one := mustNew(t, c.rule, c.strip, api.MaxSea)
		for _, n := range times() {
			for _, s := range []*strip.Sea{one, mustNew(t, c.rule, c.strip, 1<<14), one} {
				if got, e := s.Run(c.band, n); e != api.OK || !same(got, c.later(t, n)) || s.Nodes() != 0 {
					t.Errorf("%s: Run(.., %d): %v, %d, not %v", c.what, n, shortBand(got), e, c.later(t, n))
				}
			}
		}
	}
}

// TestRunOfBillionsInSmallSeas: where a sea has few nodes, all that is nobody's business is forgotten between two leaps, at any level; it answers as a greater one does, or is ErrBudget, and from some number of nodes on it answers.
func TestRunOfBillionsInSmallSeas(t *testing.T) {
	for _, c := range rounds() {
		for _, n := range []int{1<<39 - 1, 1 << 39, 987654321987} {
			want, last := c.later(t, n), api.ErrBudget
			for most := 1; most < 1<<13; most += 1 + most/7 {
				s := mustNew(t, c.rule, c.strip, most)
				got, e := s.Run(c.band, n)
				if e == api.OK && !same(got, want) || e != api.OK && (e != api.ErrBudget || !isZero(got)) {
					t.Errorf("%s, %d nodes: Run(.., %d): %v, %d, not %v", c.what, most, n, shortBand(got), e, want)
				}
				last = e
			}
			if last != api.OK {
				t.Errorf("%s: Run(.., %d): %d", c.what, n, last)
			}
		}
	}
}

// TestRunAndRunOn: n and then m generations are n + m.
func TestRunAndRunOn(t *testing.T) {
	for _, c := range rounds() {
		s := mustNew(t, c.rule, c.strip, 1<<16)
		for _, n := range []int{0, 1, 5, 1 << 31, 1<<38 + 3} {
			for _, m := range []int{0, 1, 2, 999, 1<<38 + 1} {
				first, e := s.Run(c.band, n)
				second, f := s.Run(first, m)
				whole, g := s.Run(c.band, n+m)
				if e != api.OK || f != api.OK || g != api.OK || !same(second, whole) {
					t.Errorf("%s: Run of %d and of %d: %v, %d, %d; of both: %v, %d", c.what, n, m, shortBand(second), e, f, shortBand(whole), g)
				}
			}
		}
	}
}

// TestRunOfAnyAndRunOn: of bands drawn at random.
func TestRunOfAnyAndRunOn(t *testing.T) {
	d := dice(83)
	for _, r := range rules() {
		for _, a := range append(strips(2), strips(7)...) {
			s := mustNew(t, r, a, 1<<17)
			for range 6 {
				one, n, m := d.band(a.W, 5, 1+d.below(12), statesOf(r)), d.below(60), d.below(60)
				first, e := s.Run(one, n)
				second, f := s.Run(first, m)
				whole, g := s.Run(one, n+m)
				if e != api.OK || f != api.OK || g != api.OK || !same(second, whole) {
					t.Errorf("%v on %v: Run of %d and of %d: %v, %d, %d; of both: %v, %d", brief(r), a, n, m, shortBand(second), e, f, shortBand(whole), g)
				}
			}
		}
	}
}

// TestRunOfMovedBands: a band whose At is moved comes to the band that is moved alike, also where the sea knows the one and not the other.
func TestRunOfMovedBands(t *testing.T) {
	for _, c := range rounds() {
		for _, move := range []int{-1 << 39, -3, -1, 1, 2, 1 << 38} {
			s := mustNew(t, c.rule, c.strip, 1<<14)
			moved := c.band
			moved.At += move
			n := 1<<35 + 5
			want, e := s.Run(c.band, n)
			got, f := s.Run(moved, n)
			want.At += move
			if e != api.OK || f != api.OK || !same(got, want) {
				t.Errorf("%s, moved by %d: %v, %d, %d, not %v", c.what, move, shortBand(got), e, f, shortBand(want))
			}
		}
	}
}

// TestRunOfTwoThatMeet: of two gliders, one down and one up, that run into each other far away; as many generations ahead of it and behind it as window.Run can tell.
func TestRunOfTwoThatMeet(t *testing.T) {
	a := api.Topo{Kind: api.Torus, W: 7}
	b := newBoth(t, conway(), a, api.MaxSea)
	both := band(7, 0, "0100000", "0010000", "1110000")
	for range 120 {
		both.Rows = append(both.Rows, make([]uint8, 7))
	}
	both.Rows = append(both.Rows, drawn("1110000", "0010000", "0100000")...)
	for _, n := range []int{1, 100, 200, 230, 240, 250, 260, 300, 400, 800, 1500} {
		b.mustRun(both, n)
	}
}
