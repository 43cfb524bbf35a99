package plain_test

import (
	"strings"
	"testing"

	"vivarium/api"
	"vivarium/plain"
)

// P23.5: what follows. (Of of Sign stands beside the signs.)

// within are the cells that lie in a rectangle.
func within(cells []api.Cell, r api.Rect) []api.Cell {
	var list []api.Cell
	for _, c := range cells {
		if c.X >= r.X && c.X < r.X+r.W && c.Y >= r.Y && c.Y < r.Y+r.H {
			list = append(list, c)
		}
	}
	return list
}

func TestReadOfWriteAreTheCells(t *testing.T) {
	d := dice(41)
	for range 5000 {
		cells, r := d.living(), d.small() // the cells are by rows
		want := moved(within(cells, r), -r.X, -r.Y)
		reads(t, mustWrite(t, cells, r), want...)
		reads(t, mustWrite(t, d.strewn(cells), r), want...)
	}
}

// TestReadOfWriteOfFarCells: rectangles and cells anywhere.
func TestReadOfWriteOfFarCells(t *testing.T) {
	d := dice(42)
	for range 3000 {
		x, y := d.below(1<<31)*1000-1<<40, d.below(1<<31)*1000-1<<40
		x, y = min(x, 1<<40-50), min(y, 1<<40-50)
		cells, r := moved(d.living(), x+6, y+6), d.small()
		r.X, r.Y = r.X+x+8, r.Y+y+8
		reads(t, mustWrite(t, d.strewn(cells), r), moved(within(cells, r), -r.X, -r.Y)...)
	}
}

func TestReadOfWriteOfAllStates(t *testing.T) {
	cells := make([]api.Cell, 255)
	for i := range cells {
		cells[i] = cell(i%16, i/16, uint8(i+1))
	}
	reads(t, mustWrite(t, cells, rect(0, 0, 16, 16)), cells...)
	reads(t, mustWrite(t, cells, rect(-2, -3, 20, 20)), moved(cells, 2, 3)...)
}

// around is a rectangle from (0, 0) on that is wide and high enough for cells, and perhaps more.
func around(cells []api.Cell, more int) api.Rect {
	var r api.Rect
	for _, c := range cells {
		r.W, r.H = max(r.W, c.X+1), max(r.H, c.Y+1)
	}
	r.W += more
	r.H += more
	return r
}

// thereAndBack looks at a text: the cells that are read of it, if it is a picture, are those of a picture of them.
func thereAndBack(t *testing.T, text string) bool {
	t.Helper()
	cells, _, e := plain.Read(text)
	if e != api.OK {
		return false
	}
	for more := range 3 {
		again := mustWrite(t, cells, around(cells, more))
		reads(t, again, cells...)
		writes(t, cells, around(cells, more), again)
	}
	return true
}

func TestWriteOfWhatIsReadIsReadAsIt(t *testing.T) {
	d := dice(43)
	n := 0
	for range 20000 {
		if thereAndBack(t, d.text()) {
			n++
		}
	}
	if n < 5000 {
		t.Errorf("%d texts were read", n)
	}
	for _, text := range goodTexts {
		if !thereAndBack(t, text) {
			t.Errorf("Read(%q) is refused", text)
		}
	}
}

// TestWriteOfWhatIsReadMayBeTooLong: a text with rows of unlike lengths may be shorter than any picture of its cells, and a row longer than any side.
func TestWriteOfWhatIsReadMayBeTooLong(t *testing.T) {
	cells := mustRead(t, strings.Repeat("\n", 1<<10)+strings.Repeat(".", 1<<10)+"O")
	noPicture(t, cells, around(cells, 0), api.ErrText)
	cells = mustRead(t, strings.Repeat(".", 1<<16)+"O")
	noPicture(t, cells, around(cells, 0), api.ErrPicture)
}
