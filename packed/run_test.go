package packed_test

import (
	"math"
	"slices"
	"testing"

	"vivarium/api"
	"vivarium/field"
	"vivarium/life"
	"vivarium/packed"
	"vivarium/topo"
)

// P16.2

// TestRunOfEachRuleOnSmallGrids: each kind of grid, with each shift and without, turned one way and the other, at sides of 1, 2 and 3, where a cell is its own neighbour, and a neighbour several times.
func TestRunOfEachRuleOnSmallGrids(t *testing.T) {
	d := dice(23)
	all := grids(3)
	for i, l := range allRules() {
		for j, a := range all {
			cells := d.cells(a.W * a.H)
			f := made(t, a.W, a.H, 2, (i+j)%2 == 0, cells)
			hasCells(t, "the model", l, a, mustRun(t, l, a, f, 1), modelRun(l, a, cells, 1))
		}
	}
}

// TestRunOfEachPatternOnTheSmallestGrids: all fields of at most six cells, by rules that know one count alone.
func TestRunOfEachPatternOnTheSmallestGrids(t *testing.T) {
	for _, a := range grids(3) {
		if a.W*a.H > 6 {
			continue
		}
		for pattern := range 1 << (a.W * a.H) {
			cells := make([]uint8, a.W*a.H)
			for i := range cells {
				cells[i] = uint8(pattern >> i & 1)
			}
			for _, near := range hoods {
				count := uint16(1) << (pattern % (len(offsets[near]) + 1))
				l := api.Life{Hood: near, Born: count, Stay: upTo(near) &^ count}
				f := made(t, a.W, a.H, 2, pattern%2 == 0, cells)
				hasCells(t, "the model", l, a, mustRun(t, l, a, f, 1), modelRun(l, a, cells, 1))
			}
		}
	}
}

// TestRunOfACellThatIsItsOwnNeighbour counts the page's examples of small grids: of one living cell, how often it is a neighbour of which.
func TestRunOfACellThatIsItsOwnNeighbour(t *testing.T) {
	for _, c := range []struct {
		t     api.Topo
		times []int // of each cell: how often the first one is its neighbour
	}{
		{api.Topo{Kind: api.Torus, W: 1, H: 1}, []int{8}},
		{api.Topo{Kind: api.Torus, W: 1, H: 3}, []int{2, 3, 3}},
		{api.Topo{Kind: api.Torus, W: 3, H: 1}, []int{2, 3, 3}},
		{api.Topo{Kind: api.Torus, W: 2, H: 2}, []int{0, 2, 2, 4}},
		{api.Topo{Kind: api.Plane, W: 1, H: 1}, []int{0}},
		{api.Topo{Kind: api.Sphere, W: 1, H: 1}, []int{8}},
		{api.Topo{Kind: api.Sphere, W: 2, H: 2}, []int{3, 2, 2, 1}},
		{api.Topo{Kind: api.Cross, W: 2, H: 2}, []int{1, 2, 2, 3}},
		{api.Topo{Kind: api.Klein, W: 1, H: 1, Turn: api.TurnWide}, []int{8}},
	} {
		for times := range 9 {
			cells, want := make([]uint8, len(c.times)), make([]uint8, len(c.times))
			cells[0] = 1
			for i, n := range c.times {
				if n == times {
					want[i] = 1
				}
			}
			l := api.Life{Hood: api.Moore, Born: 1 << times, Stay: 1 << times}
			hasCells(t, "counted", l, c.t, mustRun(t, l, c.t, made(t, c.t.W, c.t.H, 2, false, cells), 1), want)
		}
	}
}

// TestRunOfSeveralGenerations: 0, 1 and more, of fields that are packed and not, and of one that was packed and unpacked in between.
func TestRunOfSeveralGenerations(t *testing.T) {
	d := dice(29)
	for _, l := range fewRules() {
		for _, a := range slices.Concat(grids(2), someOf(7, 4), someOf(4, 7), someOf(6, 6), someOf(66, 2), someOf(1, 9)) {
			cells := d.cells(a.W * a.H)
			f := made(t, a.W, a.H, 2, false, cells)
			for _, n := range []int{0, 1, 2, 3, 7} {
				want := modelRun(l, a, cells, n)
				for _, bits := range []bool{true, false} {
					if e := f.Pack(bits); e != api.OK {
						t.Fatal(e)
					}
					hasCells(t, "the model", l, a, mustRun(t, l, a, f, n), want)
				}
			}
		}
	}
}

// TestRunBesideAPlane: what lies outside stays 0, though the rule wakes empty space.
func TestRunBesideAPlane(t *testing.T) {
	plane := api.Topo{Kind: api.Plane, W: 3, H: 3}
	l := api.Life{Hood: api.Moore, Born: 1, Stay: 1 << 8} // B0/S8
	f := drawn(t, false, "...", "...", "...")
	for n, want := range [][]string{{"...", "...", "..."}, {"ooo", "ooo", "ooo"}, {"...", ".o.", "..."}, {"...", "...", "..."}, {"ooo", "ooo", "ooo"}} {
		if g := mustRun(t, l, plane, f, n); !g.Same(drawn(t, false, want...)) {
			t.Errorf("%d generations: %v, not %v", n, cellsOf(t, g), want)
		}
	}
}

// modelError is the error that Run must answer, by the chapter's order.
func modelError(l api.Life, t api.Topo, f *field.Field, n int) api.Errno {
	cells := t.W * t.H
	switch {
	case f.W() == 0:
		return api.ErrNil
	case life.Check(l) != api.OK:
		return api.ErrRule
	case topo.Check(t) != api.OK:
		return api.ErrTopo
	case n < 0:
		return api.ErrArg
	case n > 1<<50:
		return api.ErrFar
	case cells == 0:
		return api.ErrEndless
	case t.W != f.W() || t.H != f.H():
		return api.ErrUnlike
	case f.States() > 2:
		return api.ErrPack
	case n > 1<<26 || n*cells > 1<<26: // the second is small enough
		return api.ErrBudget
	}
	return api.OK
}

// wrongTopos may not be; some have an endless side too, some the fields' sides.
func wrongTopos() []api.Topo {
	return []api.Topo{
		{},
		{W: 3, H: 2},
		{Kind: 6, W: 3, H: 2},
		{Kind: 255},
		{Kind: api.Plane, W: -1, H: 2},
		{Kind: api.Plane, W: 3, H: -2},
		{Kind: api.Plane, W: -1},
		{Kind: api.Plane, W: api.MaxSide + 1, H: 2},
		{Kind: api.Torus, W: math.MinInt, H: math.MaxInt},
		{Kind: api.Sphere, W: 3, H: 2},
		{Kind: api.Sphere},
		{Kind: api.Klein, W: 3, H: 2},
		{Kind: api.Klein, W: 3, Turn: api.TurnWide},
		{Kind: api.Cross, H: 2},
		{Kind: api.Cross, W: 3, H: 2, Turn: api.TurnHigh},
		{Kind: api.Plane, W: 3, H: 2, Turn: api.TurnWide},
		{Kind: api.Torus, W: 3, H: 2, Turn: 3, Shift: 1},
		{Kind: api.Torus, W: 3, H: 2, Shift: 1},
		{Kind: api.Torus, W: 3, H: 2, Turn: api.TurnWide, Shift: 3},
		{Kind: api.Torus, W: 3, Turn: api.TurnWide, Shift: 1},
		{Kind: api.Klein, W: 3, H: 2, Turn: api.TurnHigh, Shift: 2},
	}
}

// fineTopos may be: endless ones, ones with other sides than 3 and 2, and ones with these.
func fineTopos() []api.Topo {
	all := []api.Topo{{Kind: api.Plane}, {Kind: api.Torus}, {Kind: api.Plane, W: 3}, {Kind: api.Plane, H: 2}, {Kind: api.Torus, W: 3}, {Kind: api.Torus, H: 2}, {Kind: api.Plane, W: 65536},
		{Kind: api.Plane, W: 2, H: 3}, {Kind: api.Plane, W: 3, H: 3}, {Kind: api.Torus, W: 6, H: 1}, {Kind: api.Klein, W: 4, H: 2, Turn: api.TurnWide}, {Kind: api.Sphere, W: 2, H: 2}, {Kind: api.Cross, W: 65536, H: 65536}}
	return append(all, someOf(3, 2)...)
}

// numbersOfGenerations: below 0, some, about what six cells may have, about what one may have, about the farthest, and such as come round when they are multiplied. None that is allowed is great.
func numbersOfGenerations() []int {
	return []int{math.MinInt, -1 << 32, -1, 0, 1, 3, 1<<26/6 + 1, 1 << 26, 1<<26 + 1, 1 << 32, 1 << 50, 1<<50 + 1, 1 << 62, math.MaxInt}
}

// eachRefusal goes through fields, rules, topologies and numbers of generations, those that may be and those that may not, each beside each. Fields that there are have 3 columns and 2 rows.
func eachRefusal(t *testing.T, look func(api.Life, api.Topo, *field.Field, int)) {
	t.Helper()
	cells := []uint8{1, 0, 1, 0, 1, 1}
	fields := []*field.Field{nil, {}, made(t, 3, 2, 2, false, cells), made(t, 3, 2, 2, true, cells), made(t, 3, 2, 3, false, cells), made(t, 3, 2, 4, false, []uint8{1, 0, 2, 0, 3, 1}), made(t, 3, 2, 256, false, make([]uint8, 6))}
	for _, f := range fields {
		for _, l := range append(wrongRules(), fewRules()...) {
			for _, a := range append(wrongTopos(), fineTopos()...) {
				for _, n := range numbersOfGenerations() {
					look(l, a, f, n)
				}
			}
		}
	}
}

// TestRunRefuses: each error, and which counts where several would.
func TestRunRefuses(t *testing.T) {
	met := map[api.Errno]int{}
	eachRefusal(t, func(l api.Life, a api.Topo, f *field.Field, n int) {
		want := modelError(l, a, f, n)
		met[want]++
		g, e := packed.Run(l, a, f, n)
		if e != want || (g == nil) != (e != api.OK) {
			t.Errorf("Run(%v, %v, %d): %d, not %d", l, a, n, e, want)
		}
	})
	for _, e := range []api.Errno{api.OK, api.ErrNil, api.ErrRule, api.ErrTopo, api.ErrArg, api.ErrFar, api.ErrEndless, api.ErrUnlike, api.ErrPack, api.ErrBudget} {
		if met[e] == 0 {
			t.Errorf("the error %d was not met", e)
		}
	}
}

// TestRunRefusesInItsOrder: calls in which all that the chapter names behind one error is wrong too, as far as it can be at once.
func TestRunRefusesInItsOrder(t *testing.T) {
	wrong, endless, unlike, fine := api.Topo{}, api.Topo{Kind: api.Plane, W: 3}, api.Topo{Kind: api.Plane, W: 4, H: 2}, api.Topo{Kind: api.Plane, W: 3, H: 2}
	many := made(t, 3, 2, 3, false, make([]uint8, 6))
	two := made(t, 3, 2, 2, false, make([]uint8, 6))
	for i, c := range []struct {
		l    api.Life
		t    api.Topo
		f    *field.Field
		n    int
		want api.Errno
	}{
		{api.Life{}, wrong, nil, -1, api.ErrNil},
		{api.Life{}, wrong, &field.Field{}, -1, api.ErrNil},
		{api.Life{}, wrong, many, -1, api.ErrRule},
		{conway(), wrong, many, -1, api.ErrTopo},
		{conway(), wrong, many, 1<<50 + 1, api.ErrTopo},
		{conway(), endless, many, -1, api.ErrArg},
		{conway(), unlike, many, -1, api.ErrArg},
		{conway(), endless, many, 1<<50 + 1, api.ErrFar},
		{conway(), unlike, many, 1<<50 + 1, api.ErrFar},
		{conway(), endless, many, 1 << 50, api.ErrEndless},
		{conway(), unlike, many, 1 << 50, api.ErrUnlike},
		{conway(), fine, many, 1 << 50, api.ErrPack},
		{conway(), fine, many, 0, api.ErrPack},
		{conway(), fine, two, 1 << 50, api.ErrBudget},
		{conway(), fine, two, 0, api.OK},
	} {
		if g, e := packed.Run(c.l, c.t, c.f, c.n); e != c.want || (g == nil) != (e != api.OK) {
			t.Errorf("row %d: %d, not %d", i, e, c.want)
		}
	}
}

// TestRunLeavesARefusedFieldAsItIs: its cells, its states and its packing.
func TestRunLeavesARefusedFieldAsItIs(t *testing.T) {
	for _, bits := range []bool{false, true} {
		cells := []uint8{1, 0, 1, 0, 1, 1}
		f := made(t, 3, 2, 2, bits, cells)
		for _, a := range append(wrongTopos(), fineTopos()...) {
			for _, n := range []int{-1, 1 << 26, 1 << 50, math.MaxInt} {
				packed.Run(conway(), a, f, n)
				packed.Run(api.Life{}, a, f, n)
			}
		}
		if !slices.Equal(cellsOf(t, f), cells) || f.Packed() != bits || f.States() != 2 {
			t.Errorf("packed %v: %v, %v, %d", bits, cellsOf(t, f), f.Packed(), f.States())
		}
	}
}

// TestRunOneMoreThanMaxWork: grids of all sizes, one generation too many, and numbers whose product comes round to what is allowed.
func TestRunOneMoreThanMaxWork(t *testing.T) {
	for _, s := range [][2]int{{1, 1}, {1, 2}, {3, 3}, {7, 1}, {64, 64}, {65, 63}, {128, 128}, {1000, 1000}, {1024, 1024}, {65536, 1}, {1, 65536}, {65536, 16}, {16, 65536}, {61680, 17}, {1023, 1025}} {
		a := api.Topo{Kind: api.Plane, W: s[0], H: s[1]}
		f := made(t, s[0], s[1], 2, true, make([]uint8, s[0]*s[1]))
		cells := s[0] * s[1]
		for _, n := range []int{1<<26/cells + 1, 1<<26/cells + 2, 1 << 27, 1 << 44, 1 << 46, 1 << 48, 1<<50 - 1, 1 << 50} {
			if g, e := packed.Run(conway(), a, f, n); g != nil || e != api.ErrBudget {
				t.Errorf("%v, %d generations: %d", s, n, e)
			}
		}
		if g, e := packed.Run(conway(), a, f, 1<<50+1); g != nil || e != api.ErrFar {
			t.Errorf("%v, too many generations: %d", s, e)
		}
		if !mustRun(t, conway(), a, f, 0).Same(f) {
			t.Errorf("%v: no generation is another field", s)
		}
	}
}

// TestRunJustMaxWork: as many generations as are allowed, of the greatest grid, of one whose cells do not go into MaxWork, and of a small one. In four generations a glider goes one step down and one to the right, here over the edges.
func TestRunJustMaxWork(t *testing.T) {
	for _, s := range []struct{ w, h, n int }{{1024, 1024, 64}, {1000, 1000, 67}, {65536, 16, 64}, {64, 64, 16384}} {
		a := api.Topo{Kind: api.Torus, W: s.w, H: s.h}
		f := glider(t, s.w, s.h, s.w-10, s.h-5)
		want := mustRun(t, conway(), a, glider(t, s.w, s.h, s.w-10+s.n/4, s.h-5+s.n/4), s.n%4)
		if g := mustRun(t, conway(), a, f, s.n); !g.Same(want) || g.Pop() != 5 {
			t.Errorf("%d times %d, %d generations: %d cells live", s.w, s.h, s.n, g.Pop())
		}
		if g, e := packed.Run(conway(), a, f, s.n+1); g != nil || e != api.ErrBudget {
			t.Errorf("%d times %d, %d generations: %d", s.w, s.h, s.n+1, e)
		}
	}
}

// glider is a field with a glider about a place, the field taken for a torus.
func glider(t *testing.T, w, h, x, y int) *field.Field {
	t.Helper()
	f := made(t, w, h, 2, false, make([]uint8, w*h))
	for _, p := range []api.Point{at(0, -1), at(1, 0), at(-1, 1), at(0, 1), at(1, 1)} {
		if e := f.Set(mod(x+p.X, w), mod(y+p.Y, h), 1); e != api.OK {
			t.Fatal(e)
		}
	}
	return f
}

// TestRunOfTheLongestSides: a row, and a column, of MaxSide.
func TestRunOfTheLongestSides(t *testing.T) {
	d := dice(31)
	for _, s := range [][2]int{{65536, 1}, {1, 65536}, {65536, 2}, {65535, 3}} {
		for _, a := range []api.Topo{{Kind: api.Plane, W: s[0], H: s[1]}, {Kind: api.Torus, W: s[0], H: s[1]}, {Kind: api.Cross, W: s[0], H: s[1]}} {
			cells := d.cells(s[0] * s[1])
			f := made(t, s[0], s[1], 2, true, cells)
			hasCells(t, "the model", conway(), a, mustRun(t, conway(), a, f, 2), modelRun(conway(), a, cells, 2))
		}
	}
}
