package ring_test

import (
	"testing"

	"vivarium/api"
	"vivarium/field"
	"vivarium/ring"
)

// P14.2

// TestRowsOfEachSmallGrid: one cell lives, each in its turn, and then all but it; so the rows tell of each place which cell it is.
func TestRowsOfEachSmallGrid(t *testing.T) {
	for _, a := range grids(4) {
		for i := range a.W * a.H {
			cells := make([]uint8, a.W*a.H)
			cells[i] = 1
			areRows(t, "one lives", a, mustRows(t, a, made(t, a.W, a.H, 2, i%2 == 0, cells)), modelFrame(a, cells))
			for j := range cells {
				cells[j] ^= 1
			}
			areRows(t, "one is dead", a, mustRows(t, a, made(t, a.W, a.H, 2, i%2 == 1, cells)), modelFrame(a, cells))
		}
	}
}

// TestRowsAreBytes: at columns about the ends of words, of the field and of the rows, which have two more; packed and not.
func TestRowsAreBytes(t *testing.T) {
	d := dice(11)
	for _, w := range []int{1, 2, 61, 62, 63, 64, 65, 66, 125, 126, 127, 128, 129} {
		for _, h := range []int{1, 2, 3, w} {
			cells := d.cells(w*h, 2)
			bytes, bits := made(t, w, h, 2, false, cells), made(t, w, h, 2, true, cells)
			for _, a := range someOf(w, h) {
				frame := mustBytes(t, a, bytes)
				isFrame(t, "the page", a, frame, modelFrame(a, cells))
				areRows(t, "of bytes", a, mustRows(t, a, bytes), frame.Cells)
				areRows(t, "of bits", a, mustRows(t, a, bits), frame.Cells)
			}
		}
	}
}

// TestRowsAtTheEndsOfWords: one cell lives, at the edges and about the places where a word ends.
func TestRowsAtTheEndsOfWords(t *testing.T) {
	for _, w := range []int{62, 63, 64, 65} {
		for _, x := range []int{0, 1, w/2 - 1, w / 2, w - 3, w - 2, w - 1} {
			for _, packed := range []bool{false, true} {
				cells := make([]uint8, 2*w)
				cells[x] = 1
				f := made(t, w, 2, 2, packed, cells)
				for _, a := range someOf(w, 2) {
					areRows(t, "one lives", a, mustRows(t, a, f), modelFrame(a, cells))
				}
			}
		}
	}
}

func TestRowsOfGreatGrids(t *testing.T) {
	d := dice(13)
	for _, s := range [][2]int{{api.MaxSide, 1}, {1, api.MaxSide}, {api.MaxSide, 16}, {16, api.MaxSide}, {1024, 1024}} {
		cells := d.cells(s[0]*s[1], 2)
		f := made(t, s[0], s[1], 2, true, cells)
		for _, a := range someOf(s[0], s[1]) {
			areRows(t, "great", a, mustRows(t, a, f), modelFrame(a, cells))
		}
	}
}

// TestRowsOfMoreStates: it is how many states the field may have that counts, not those that its cells have.
func TestRowsOfMoreStates(t *testing.T) {
	a := api.Topo{Kind: api.Torus, W: 2, H: 2}
	for states := 2; states <= 256; states++ {
		f, _ := field.New(2, 2, states, false)
		rows, e := ring.Rows(a, f)
		if states == 2 {
			areRows(t, "nothing lives", a, rows, make([]uint8, 16))
		} else if e != api.ErrPack || len(rows) > 0 {
			t.Errorf("Rows of %d states: %d rows, %d", states, len(rows), e)
		}
	}
}

// TestRowsRefuses: each error, and which counts where several would.
func TestRowsRefuses(t *testing.T) {
	eachRefusal(t, func(a api.Topo, c refusal) {
		rows, e := ring.Rows(a, c.f)
		if e != c.rows || e != api.OK && len(rows) > 0 {
			t.Errorf("Rows(%v, %s): %d rows, %d; not %d", a, c.name, len(rows), e, c.rows)
		}
	})
}
