package tiles_test

import (
	"slices"
	"testing"

	"vivarium/api"
	"vivarium/field"
	"vivarium/tiles"
)

// P18.4

// TestFieldIsOfTheSidesStatesAndPacking: those of the field that New was handed, whatever the board has done.
func TestFieldIsOfTheSidesStatesAndPacking(t *testing.T) {
	d := dice(107)
	for _, s := range everySide {
		for _, states := range []int{2, 3, 256} {
			for _, packed := range []bool{false, states == 2} {
				a := api.Topo{Kind: api.Torus, W: s[0], H: s[1]}
				b := mustNew(t, fading(api.Moore, 1<<3, 1<<2, states), a, made(t, a.W, a.H, states, packed, d.cells(a.W*a.H, states)), 2)
				for range 3 {
					f := fieldOf(t, b)
					if f.W() != a.W || f.H() != a.H || f.States() != states || f.Packed() != packed {
						t.Errorf("%v: %d times %d, %d states, packed %v; not %d, %v", a, f.W(), f.H(), f.States(), f.Packed(), states, packed)
					}
					mustStep(t, b, 2)
					mustSet(t, b, 0, 0, 1)
				}
			}
		}
	}
}

// TestFieldIsAnotherEachTime: one that is written over changes neither the board nor another one, nor does the board change it.
func TestFieldIsAnotherEachTime(t *testing.T) {
	d := dice(109)
	for _, r := range fewRules() {
		for _, a := range slices.Concat(someOf(3, 2), someOf(17, 18)) {
			for _, packed := range []bool{false, statesOf(r) == 2} {
				p := newPair(t, r, a, d.cells(a.W*a.H, statesOf(r)), packed, 3)
				for name, write := range writings() {
					one, other := fieldOf(t, p.b), fieldOf(t, p.b)
					was := cellsOf(t, other)
					write(one)
					if one == other || !slices.Equal(cellsOf(t, other), was) || other.Packed() != packed {
						t.Fatalf("%s of one field changed another", name)
					}
					p.look()
					p.step(1)
					p.set(0, 0, 1)
					if !slices.Equal(cellsOf(t, other), was) {
						t.Fatalf("the board changed a field that it had answered")
					}
				}
			}
		}
	}
}

// TestGen: as many generations as were done; Sets and refused Steps count for nothing.
func TestGen(t *testing.T) {
	d := dice(113)
	a := api.Topo{Kind: api.Cross, W: 20, H: 17}
	b := mustNew(t, conway(), a, made(t, 20, 17, 2, false, d.cells(340, 2)), 3)
	want := 0
	for _, n := range []int{0, 1, 0, 5, 1, 17, 100, 197378, 1} {
		if b.Gen() != want {
			t.Errorf("generation %d, not %d", b.Gen(), want)
		}
		mustStep(t, b, n)
		want += n
		mustSet(t, b, 3, 3, 1)
		b.Set(-1, 0, 0)
		b.Step(-1)
		b.Step(1 << 26)
		b.Step(1 << 51)
	}
	if b.Gen() != want {
		t.Errorf("generation %d, not %d", b.Gen(), want)
	}
}

// TestTiles: how many tiles of 16 times 16 it takes, of all sides about them.
func TestTiles(t *testing.T) {
	for _, w := range []int{1, 2, 15, 16, 17, 31, 32, 33, 47, 48, 49, 100} {
		for _, h := range []int{1, 2, 15, 16, 17, 31, 32, 33, 47, 48, 49, 100} {
			b := mustNew(t, conway(), api.Topo{Kind: api.Plane, W: w, H: h}, blank(t, w, h), 1)
			columns, rows := 0, 0
			for x := 0; x < w; x += 16 {
				columns++
			}
			for y := 0; y < h; y += 16 {
				rows++
			}
			if b.Tiles() != columns*rows {
				t.Errorf("%d times %d: %d tiles, not %d", w, h, b.Tiles(), columns*rows)
			}
			mustStep(t, b, 3)
			mustSet(t, b, w-1, h-1, 1)
			if b.Tiles() != columns*rows {
				t.Errorf("%d times %d: %d tiles behind steps", w, h, b.Tiles())
			}
		}
	}
}

// TestNone: a board that is nil, or that no call made, whatever it is asked; behind it as ahead of it.
func TestNone(t *testing.T) {
	var none *tiles.Board
	for _, b := range []*tiles.Board{none, {}, new(tiles.Board)} {
		for range 2 {
			for _, n := range numbers(1) {
				if e := b.Step(n); e != api.ErrNil {
					t.Errorf("Step(%d): %d", n, e)
				}
			}
			for _, x := range append(beyond(1), 0) {
				for _, state := range []uint8{0, 1, 255} {
					if e := b.Set(x, 0, state); e != api.ErrNil {
						t.Errorf("Set(%d, 0, %d): %d", x, state, e)
					}
				}
			}
			if f, e := b.Field(); f != nil || e != api.ErrNil {
				t.Errorf("Field: %v, %d", f, e)
			}
			if b.Gen() != 0 || b.Tiles() != 0 || b.Stirred() != 0 {
				t.Errorf("generation %d, %d tiles, %d stirred", b.Gen(), b.Tiles(), b.Stirred())
			}
		}
	}
}

// TestNoneOfARefusal: what New refuses is nil, and tells so.
func TestNoneOfARefusal(t *testing.T) {
	b, e := tiles.New(conway(), api.Topo{Kind: api.Plane, W: 2, H: 2}, &field.Field{}, 1)
	if b != nil || e != api.ErrNil || b.Step(1) != api.ErrNil || b.Tiles() != 0 {
		t.Errorf("%v, %d", b, e)
	}
}
