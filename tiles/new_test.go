package tiles_test

import (
	"math"
	"slices"
	"testing"

	"vivarium/api"
	"vivarium/field"
	"vivarium/rule"
	"vivarium/tiles"
	"vivarium/topo"
)

// P18.1

// wrongRules are rules that may not be, of each kind and of none.
func wrongRules() []api.Rule {
	wrongRow := wind(api.Moore, 0, 2)
	wrongRow.Table.Rows[0].Around = wrongRow.Table.Rows[0].Around[1:]
	noName, withGens := wind(api.Neumann, 0, 2), wind(api.Hex, 0, 2)
	noName.Name = ""
	withGens.Gens = conway().Gens
	named, many := conway(), conway()
	named.Name = "t"
	many.Gens.States = 3
	return []api.Rule{{}, {Kind: 4}, {Kind: 255, Gens: conway().Gens}, {Kind: api.KindLife}, births(0, 1<<3, 1<<2), births(api.Moore, 1<<9, 0), births(api.Neumann, 1<<3, 1<<5),
		named, many, fading(api.Moore, 1<<3, 0, 1), fading(api.Moore, 1<<3, 0, 257), fading(9, 1<<3, 0, 2),
		wrongRow, noName, withGens, tabled(api.Table{}), tabled(api.Table{States: 257, Hood: api.Moore}), tabled(api.Table{States: 2}), tabled(api.Table{States: 2, Hood: api.Moore, Symmetry: 11})}
}

// wrongTopos may not be; some have an endless side too, some the fields' sides.
func wrongTopos() []api.Topo {
	return []api.Topo{
		{},
		{W: 3, H: 2},
		{Kind: 6, W: 3, H: 2},
		{Kind: 255},
		{Kind: api.Plane, W: -1, H: 2},
		{Kind: api.Plane, W: 3, H: -2},
		{Kind: api.Plane, W: -1},
		{Kind: api.Plane, W: api.MaxSide + 1, H: 2},
		{Kind: api.Torus, W: math.MinInt, H: math.MaxInt},
		{Kind: api.Sphere, W: 3, H: 2},
		{Kind: api.Sphere},
		{Kind: api.Klein, W: 3, H: 2},
		{Kind: api.Klein, W: 3, Turn: api.TurnWide},
		{Kind: api.Cross, H: 2},
		{Kind: api.Cross, W: 3, H: 2, Turn: api.TurnHigh},
		{Kind: api.Plane, W: 3, H: 2, Turn: api.TurnWide},
		{Kind: api.Torus, W: 3, H: 2, Turn: 3, Shift: 1},
		{Kind: api.Torus, W: 3, H: 2, Shift: 1},
		{Kind: api.Torus, W: 3, H: 2, Turn: api.TurnWide, Shift: 3},
		{Kind: api.Torus, W: 3, Turn: api.TurnWide, Shift: 1},
		{Kind: api.Klein, W: 3, H: 2, Turn: api.TurnHigh, Shift: 2},
	}
}

// fineTopos may be: endless ones, ones with other sides than 3 and 2, and ones with these.
func fineTopos() []api.Topo {
	all := []api.Topo{{Kind: api.Plane}, {Kind: api.Torus}, {Kind: api.Plane, W: 3}, {Kind: api.Plane, H: 2}, {Kind: api.Torus, W: 3}, {Kind: api.Torus, H: 2}, {Kind: api.Plane, W: 65536},
		{Kind: api.Plane, W: 2, H: 3}, {Kind: api.Plane, W: 3, H: 3}, {Kind: api.Torus, W: 4, H: 2}, {Kind: api.Torus, W: 6, H: 1}, {Kind: api.Klein, W: 4, H: 2, Turn: api.TurnWide}, {Kind: api.Sphere, W: 2, H: 2}, {Kind: api.Cross, W: 65536, H: 65536}}
	return append(all, someOf(3, 2)...)
}

// newError is the error that New must answer, by the chapter's order.
func newError(r api.Rule, t api.Topo, f *field.Field, workers int) api.Errno {
	switch {
	case f.W() == 0:
		return api.ErrNil
	case rule.Check(r) != api.OK:
		return api.ErrRule
	case topo.Check(t) != api.OK:
		return api.ErrTopo
	case workers < 1 || workers > 16:
		return api.ErrWorkers
	case t.W == 0 || t.H == 0:
		return api.ErrEndless
	case t.W != f.W() || t.H != f.H():
		return api.ErrUnlike
	case f.States() != statesOf(r):
		return api.ErrState
	}
	return api.OK
}

// TestNewRefuses: each error, and which counts where several would: fields, rules, topologies and numbers of workers, those that may be and those that may not, each beside each.
func TestNewRefuses(t *testing.T) {
	cells := []uint8{1, 0, 1, 0, 1, 1}
	fields := []*field.Field{nil, {}, made(t, 3, 2, 2, false, cells), made(t, 3, 2, 2, true, cells), made(t, 3, 2, 4, false, []uint8{1, 0, 2, 0, 3, 1}), made(t, 3, 2, 256, false, make([]uint8, 6))}
	rules := append(wrongRules(), conway(), fading(api.Moore, 1<<2, 1<<3, 2), fading(api.Moore, 1<<2, 1<<3, 4), wind(api.Neumann, 1, 2), wind(api.Hex, 1, 3), still(api.Moore, 256))
	numbers := []int{math.MinInt, -1 << 32, -17, -1, 0, 1, 2, 15, 16, 17, 18, 32, 1<<32 + 1, math.MaxInt}
	met := map[api.Errno]int{}
	for _, f := range fields {
		for _, r := range rules {
			for _, a := range append(wrongTopos(), fineTopos()...) {
				for _, workers := range numbers {
					want := newError(r, a, f, workers)
					met[want]++
					if b, e := tiles.New(r, a, f, workers); e != want || (b == nil) != (e != api.OK) {
						t.Errorf("New(%v, %v, %d workers): %d, not %d", brief(r), a, workers, e, want)
					}
				}
			}
		}
	}
	for _, e := range []api.Errno{api.OK, api.ErrNil, api.ErrRule, api.ErrTopo, api.ErrWorkers, api.ErrEndless, api.ErrUnlike, api.ErrState} {
		if met[e] == 0 {
			t.Errorf("the error %d was not met", e)
		}
	}
	for i, f := range fields[2:4] {
		if !slices.Equal(cellsOf(t, f), cells) || f.Packed() != (i == 1) {
			t.Errorf("field %d was changed", i)
		}
	}
}

// TestNewBegins: a board has the field's cells, and no generation has gone.
func TestNewBegins(t *testing.T) {
	d := dice(13)
	for _, s := range everySide {
		for _, a := range someOf(s[0], s[1]) {
			for _, states := range []int{2, 3, 256} {
				for _, packed := range []bool{false, states == 2} {
					r := fading(api.Moore, 1<<3, 1<<2, states)
					newPair(t, r, a, d.cells(a.W*a.H, states), packed, 1+d.below(16)).look()
				}
			}
		}
	}
}

// TestNewOfEachNumberOfWorkers: from 1 to 16, also more than there are tiles.
func TestNewOfEachNumberOfWorkers(t *testing.T) {
	for workers := -3; workers <= 40; workers++ {
		for _, side := range []int{1, 16, 100} {
			b, e := tiles.New(conway(), api.Topo{Kind: api.Torus, W: side, H: side}, blank(t, side, side), workers)
			if ok := workers >= 1 && workers <= 16; (b != nil) != ok || (e == api.OK) != ok || !ok && e != api.ErrWorkers {
				t.Errorf("%d workers: %d", workers, e)
			}
		}
	}
}

// TestNewAtTheLimits: the greatest grids that a field may have.
func TestNewAtTheLimits(t *testing.T) {
	d := dice(17)
	for _, c := range []struct{ w, h, tiles int }{{api.MaxSide, 16, 4096}, {16, api.MaxSide, 4096}, {api.MaxSide, 1, 4096}, {1, api.MaxSide, 4096}, {1024, 1024, 4096}, {61680, 17, 7710}, {17, 61680, 7710}, {1000, 1000, 63 * 63}} {
		for kind := api.Plane; kind <= api.Sphere; kind++ {
			a := api.Topo{Kind: kind, W: c.w, H: c.h}
			if kind == api.Klein {
				a.Turn, a.Shift = api.TurnWide, c.w-1
			}
			if topo.Check(a) != api.OK {
				continue
			}
			f := made(t, c.w, c.h, 2, kind%2 == 0, d.cells(c.w*c.h, 2))
			b := mustNew(t, conway(), a, f, 16)
			if !fieldOf(t, b).Same(f) || b.Tiles() != c.tiles || b.Gen() != 0 || b.Stirred() != 0 {
				t.Errorf("%v: %d tiles, generation %d, %d stirred", a, b.Tiles(), b.Gen(), b.Stirred())
			}
		}
	}
}

// writings are ways to write over a field.
func writings() map[string]func(*field.Field) {
	return map[string]func(*field.Field){
		"Set": func(f *field.Field) {
			for y := range f.H() {
				for x := range f.W() {
					state, _ := f.Get(x, y)
					f.Set(x, y, 1-min(state, 1))
				}
			}
		},
		"Lay": func(f *field.Field) {
			line, _ := f.Line(f.H() - 1)
			for x := range line {
				line[x] = 1 - min(line[x], 1)
			}
			f.Lay(f.H()-1, line)
		},
		"Clear": func(f *field.Field) { f.Clear() },
		"Pack":  func(f *field.Field) { f.Pack(!f.Packed()) },
	}
}

// TestNewKeepsOnlyTheCells: the field is written over behind New, and ahead of and behind steps; the board is as if nothing were, and leaves the field as it is.
func TestNewKeepsOnlyTheCells(t *testing.T) {
	d := dice(19)
	for _, r := range fewRules()[:4] {
		for _, a := range slices.Concat(someOf(3, 2), someOf(17, 18), someOf(65, 1)) {
			for _, packed := range []bool{false, statesOf(r) == 2} {
				for name, write := range writings() {
					cells := d.cells(a.W*a.H, statesOf(r))
					f := made(t, a.W, a.H, statesOf(r), packed, cells)
					p := pair{t, mustNew(t, r, a, f, 1+d.below(16)), newModel(r, a, cells)}
					for range 3 {
						write(f)
						written, isPacked := cellsOf(t, f), f.Packed()
						p.look()
						p.set(d.below(a.W), d.below(a.H), uint8(d.below(statesOf(r))))
						p.step(1)
						if !slices.Equal(cellsOf(t, f), written) || f.Packed() != isPacked {
							t.Fatalf("%s: %v on %v: the board wrote into the field", name, brief(r), a)
						}
						if g := fieldOf(t, p.b); g.Packed() != packed {
							t.Fatalf("%s: %v on %v: packed %v, not %v", name, brief(r), a, g.Packed(), packed)
						}
					}
				}
			}
		}
	}
}
