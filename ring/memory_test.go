package ring_test

import (
	"slices"
	"testing"

	"vivarium/api"
	"vivarium/ring"
)

// P14.6, and DOC.md's 'Memory'.

// some are grids of each kind, with few columns and about the end of a word.
func some() []api.Topo {
	var all []api.Topo
	for _, s := range [][2]int{{1, 1}, {2, 2}, {3, 2}, {62, 2}, {64, 2}, {65, 1}, {1, 65}} {
		all = append(all, someOf(s[0], s[1])...)
	}
	return all
}

// spoil writes over a list up to the end of its spare room.
func spoil[T uint8 | uint64](list []T) {
	list = list[:cap(list)]
	for i := range list {
		list[i] = ^list[i]
	}
}

func TestAChangedFieldChangesNoAnswer(t *testing.T) {
	d := dice(43)
	for _, a := range some() {
		for _, packed := range []bool{false, true} {
			cells := d.cells(a.W*a.H, 2)
			f := made(t, a.W, a.H, 2, packed, cells)
			frame, rows, want := mustBytes(t, a, f), mustRows(t, a, f), modelFrame(a, cells)
			change := func(what string, e api.Errno) {
				t.Helper()
				if e != api.OK {
					t.Fatal(e)
				}
				isFrame(t, what, a, frame, want)
				areRows(t, what, a, rows, want)
			}
			for y := range a.H {
				for x := range a.W {
					change("Set behind it", f.Set(x, y, 1-cells[y*a.W+x]))
				}
			}
			change("Pack behind it", f.Pack(!packed))
			change("Lay behind it", f.Lay(a.H-1, make([]uint8, a.W)))
			change("Clear behind it", f.Clear())
			isFrame(t, "asked again", a, mustBytes(t, a, f), make([]uint8, len(want)))
		}
	}
}

func TestAnswersWrittenOverChangeNoField(t *testing.T) {
	d := dice(47)
	for _, a := range some() {
		for _, packed := range []bool{false, true} {
			cells := d.cells(a.W*a.H, 2)
			f := made(t, a.W, a.H, 2, packed, cells)
			frame, rows, want := mustBytes(t, a, f), mustRows(t, a, f), modelFrame(a, cells)
			spoil(frame.Cells)
			for _, r := range rows {
				spoil(r.Words)
			}
			if got := cellsOf(t, f); !slices.Equal(got, cells) {
				t.Errorf("%v: the field came to be %v, not %v", a, brief(got), brief(cells))
			}
			isFrame(t, "asked again", a, mustBytes(t, a, f), want)
			areRows(t, "asked again", a, mustRows(t, a, f), want)
		}
	}
}

// TestTheFieldStaysAsItIs: asked and refused, it has the same cells, states and packing.
func TestTheFieldStaysAsItIs(t *testing.T) {
	d := dice(53)
	for _, states := range []int{2, 3, 256} {
		for _, packed := range []bool{false, states == 2} {
			cells := d.cells(6, states)
			f := made(t, 3, 2, states, packed, cells)
			was := f.Clone()
			for _, a := range slices.Concat(someOf(3, 2), unlikeOnes(), endlessOnes(), wrongOnes()) {
				ring.Bytes(a, f)
				ring.Rows(a, f)
				if !f.Same(was) || f.Packed() != packed || !slices.Equal(cellsOf(t, f), cells) {
					t.Fatalf("%v: the field of %d states is another", a, states)
				}
			}
		}
	}
}

// TestEachRowHasWordsOfItsOwn: of one answer, and of two, none changes with another, its spare room included; nor do two frames.
func TestEachRowHasWordsOfItsOwn(t *testing.T) {
	d := dice(59)
	for _, a := range some() {
		cells := d.cells(a.W*a.H, 2)
		f := made(t, a.W, a.H, 2, true, cells)
		want := modelFrame(a, cells)
		first, second := mustRows(t, a, f), mustRows(t, a, f)
		for y := range first {
			spoil(first[y].Words)
			_ = append(first[y].Words, 77, 77)
			areRows(t, "another answer", a, second, want)
			for later := y + 1; later < len(first); later++ {
				if got := bitsOf(t, first[later]); !slices.Equal(got, want[later*(a.W+2):(later+1)*(a.W+2)]) {
					t.Errorf("%v: the row %d changed with the row %d", a, later, y)
				}
			}
		}
		one, two := mustBytes(t, a, f), mustBytes(t, a, f)
		spoil(one.Cells)
		_ = append(one.Cells, 77)
		isFrame(t, "another answer", a, two, want)
	}
}

// TestFramesHandedInAreOnlyRead: by Check and by Around, whatever they answer; their spare room too.
func TestFramesHandedInAreOnlyRead(t *testing.T) {
	d := dice(61)
	for _, s := range [][2]int{{1, 1}, {2, 3}, {7, 2}} {
		f := d.frame(s[0], s[1])
		f.Cells = append(f.Cells, 5, 6, 7)[:len(f.Cells)]
		before := slices.Clone(f.Cells[:cap(f.Cells)])
		short := api.Frame{W: f.W, H: f.H, Cells: f.Cells[:len(f.Cells)-1]}
		for _, near := range []uint8{0, api.Moore, api.Neumann, api.Hex, 4} {
			for y := -1; y <= f.H; y++ {
				for x := -1; x <= f.W; x++ {
					ring.Around(f, near, x, y)
					ring.Around(short, near, x, y)
				}
			}
		}
		ring.Check(f)
		ring.Check(short)
		if !slices.Equal(f.Cells[:cap(f.Cells)], before) {
			t.Errorf("%v: a frame came to be %v, not %v", s, f.Cells[:cap(f.Cells)], before)
		}
	}
}

// TestNeighboursAreTheCallersOwn: written over, they change no frame and no other answer; nor does a frame that is changed change them.
func TestNeighboursAreTheCallersOwn(t *testing.T) {
	d := dice(67)
	f := d.frame(3, 2)
	before := slices.Clone(f.Cells)
	for _, near := range hoods {
		first, second := mustAround(t, f, near, 1, 1), mustAround(t, f, near, 1, 1)
		want := modelAround(parted(f), near, 1, 1)
		spoil(first)
		_ = append(first, 77, 77)
		if !slices.Equal(second, want) || !slices.Equal(f.Cells, before) {
			t.Errorf("%d: written over, the neighbours changed the frame or others", near)
		}
		spoil(f.Cells)
		if !slices.Equal(second, want) {
			t.Errorf("%d: the neighbours changed with the frame", near)
		}
		copy(f.Cells, before)
		if third := mustAround(t, f, near, 1, 1); !slices.Equal(third, want) {
			t.Errorf("%d: asked again: %v, not %v", near, third, want)
		}
	}
}
