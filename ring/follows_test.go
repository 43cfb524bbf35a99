package ring_test

import (
	"slices"
	"testing"

	"vivarium/api"
	"vivarium/fold"
	"vivarium/ring"
)

// P14.5

func TestFramesOfBytesMayBe(t *testing.T) {
	d := dice(37)
	sides := [][2]int{{1, 1}, {1, 7}, {7, 1}, {5, 5}, {63, 2}, {64, 64}, {api.MaxSide, 16}, {16, api.MaxSide}, {1024, 1024}}
	for _, s := range sides {
		f := made(t, s[0], s[1], 4, false, d.cells(s[0]*s[1], 4))
		for _, a := range someOf(s[0], s[1]) {
			if e := ring.Check(mustBytes(t, a, f)); e != api.OK {
				t.Errorf("%v: %d", a, e)
			}
		}
	}
}

// TestAroundIsWhatFoldSays: of each cell of each small grid, and of some greater ones, each neighbour is the state of what fold's Ring says of its place, 0 where there is none.
func TestAroundIsWhatFoldSays(t *testing.T) {
	for _, a := range append(grids(4), append(someOf(15, 17), someOf(13, 13)...)...) {
		cells := numbered(a.W * a.H)
		frame := mustBytes(t, a, made(t, a.W, a.H, 256, false, cells))
		for _, near := range hoods {
			for y := range a.H {
				for x := range a.W {
					var want []uint8
					for _, o := range table[near] {
						want = append(want, stateByFold(t, a, cells, x+o.X, y+o.Y))
					}
					if got := mustAround(t, frame, near, x, y); !slices.Equal(got, want) {
						t.Errorf("%v: Around(%d, %d, %d): %v, not %v", a, near, x, y, got, want)
					}
				}
			}
		}
	}
}

// TestGluedFramesAreFoldsCells: on a Torus, a Klein and a Cross each place has the state of fold's Cell of it; on a Plane all places of the ring are 0.
func TestGluedFramesAreFoldsCells(t *testing.T) {
	for _, a := range append(grids(5), someOf(12, 20)...) {
		cells := numbered(a.W * a.H)
		frame := parted(mustBytes(t, a, made(t, a.W, a.H, 256, false, cells)))
		for v := -1; v <= a.H; v++ {
			for u := -1; u <= a.W; u++ {
				p, e := fold.Cell(a, at(u-a.W/2, v-a.H/2))
				switch {
				case a.Kind == api.Plane && e == api.ErrOut:
					if frame.state(u, v) != 0 {
						t.Errorf("%v: (%d, %d) is %d", a, u, v, frame.state(u, v))
					}
				case a.Kind == api.Sphere && e == api.ErrOut:
				case e != api.OK:
					t.Errorf("%v: fold.Cell of (%d, %d): %d", a, u, v, e)
				case frame.state(u, v) != cells[(p.Y+a.H/2)*a.W+p.X+a.W/2]:
					t.Errorf("%v: (%d, %d) is %d, not that of %v", a, u, v, frame.state(u, v), p)
				}
			}
		}
	}
}

// TestPackingChangesNothing: as bytes, as bits, packed and unpacked in the midst.
func TestPackingChangesNothing(t *testing.T) {
	d := dice(41)
	for _, s := range [][2]int{{1, 1}, {2, 3}, {62, 2}, {63, 63}, {64, 3}, {65, 2}, {130, 5}} {
		cells := d.cells(s[0]*s[1], 2)
		f := made(t, s[0], s[1], 2, false, cells)
		for _, a := range someOf(s[0], s[1]) {
			want := modelFrame(a, cells)
			for _, on := range []bool{false, true, true, false} {
				if e := f.Pack(on); e != api.OK {
					t.Fatal(e)
				}
				isFrame(t, "packed or not", a, mustBytes(t, a, f), want)
				areRows(t, "packed or not", a, mustRows(t, a, f), want)
				if f.Packed() != on {
					t.Errorf("%v: Packed is %v, not %v", a, f.Packed(), on)
				}
			}
		}
	}
}
