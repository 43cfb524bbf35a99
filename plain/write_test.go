package plain_test

import (
	"slices"
	"strings"
	"testing"

	"vivarium/api"
	"vivarium/plain"
)

// P23.3: pictures.

func TestWriteOfEachState(t *testing.T) {
	for s := 1; s < 256; s++ {
		sign := modelSign(uint8(s))
		writes(t, []api.Cell{cell(0, 0, uint8(s))}, rect(0, 0, 1, 1), sign+"\n")
		writes(t, []api.Cell{cell(-7, 5, uint8(s)), cell(-5, 6, uint8(s)), cell(-6, 6, 1)}, rect(-7, 5, 3, 2), sign+"..\n.O"+sign+"\n")
	}
}

func TestWriteOfNothing(t *testing.T) {
	for _, r := range []api.Rect{{}, rect(5, 6, 0, 0), rect(5, 6, 9, 0), rect(-1<<40, 1<<40, 1<<16, 0)} {
		writes(t, nil, r, "")
		writes(t, []api.Cell{cell(5, 6, 1), cell(0, 0, 2)}, r, "")
	}
	for _, h := range []int{1, 2, 3, 1<<16 - 1, 1 << 16} {
		writes(t, nil, rect(0, 0, 0, h), strings.Repeat("\n", h))
		writes(t, []api.Cell{cell(5, 6, 1), cell(0, 0, 2)}, rect(0, 0, 0, h), strings.Repeat("\n", h))
	}
	writes(t, []api.Cell{}, rect(3, 3, 3, 2), "...\n...\n")
}

// TestWriteOfTheEdges: each place in a rectangle, and each about it, by itself.
func TestWriteOfTheEdges(t *testing.T) {
	for _, w := range []int{0, 1, 2, 3} {
		for _, h := range []int{0, 1, 2, 3} {
			for _, p := range []api.Point{{}, {X: 3, Y: -4}, {X: -4, Y: 3}, {X: 1 << 39, Y: -1 << 39}, {X: -1<<40 + 2, Y: -1<<40 + 2}, {X: 1<<40 - 6, Y: 1<<40 - 6}} {
				r := rect(p.X, p.Y, w, h)
				for y := p.Y - 2; y < p.Y+h+2; y++ {
					for x := p.X - 2; x < p.X+w+2; x++ {
						cells := []api.Cell{cell(x, y, 1)}
						writes(t, cells, r, modelWrite(cells, r))
					}
				}
			}
		}
	}
}

// TestWriteOfTheFarEdges: rectangles that go on behind the last place, and cells at the last one.
func TestWriteOfTheFarEdges(t *testing.T) {
	const far = 1 << 40
	cells := []api.Cell{cell(far, far, 1), cell(-far, -far, 2), cell(far, -far, 3), cell(-far, far, 4)}
	writes(t, cells, rect(far, far, 2, 2), "O.\n..\n")
	writes(t, cells, rect(-far, -far, 2, 2), "\u2802.\n..\n")
	writes(t, cells, rect(far, -far, 2, 1), "\u2803.\n")
	writes(t, cells, rect(far-1, -far, 2, 2), ".\u2803\n..\n")
	writes(t, cells, rect(-far, far, 1, 2), "\u2804\n.\n")
	writes(t, cells, rect(-far, far-1, 1, 2), ".\n\u2804\n")
	writes(t, cells, rect(far, far, 1<<16, 3), "O"+strings.Repeat(".", 1<<16-1)+"\n"+strings.Repeat(strings.Repeat(".", 1<<16)+"\n", 2))
	writes(t, cells, rect(far, far, 3, 1<<16), "O..\n"+strings.Repeat("...\n", 1<<16-1))
}

// TestWriteOfWhatLiesElsewhere: places whose numbers are alike in their last bits, or exchanged, are others.
func TestWriteOfWhatLiesElsewhere(t *testing.T) {
	for bit := 2; bit < 40; bit++ {
		n := 1 << bit
		writes(t, []api.Cell{cell(n, 0, 1), cell(0, n, 1), cell(n, n, 1), cell(-n, 0, 1), cell(0, -n, 1), cell(1, n, 1), cell(n, 1, 1)}, rect(0, 0, 3, 3), "...\n...\n...\n")
	}
	writes(t, []api.Cell{cell(2, 0, 1)}, rect(0, 0, 3, 3), "..O\n...\n...\n")
	writes(t, []api.Cell{cell(0, 2, 1)}, rect(0, 0, 3, 3), "...\n...\nO..\n")
	writes(t, []api.Cell{cell(3, 0, 1), cell(-1, 1, 1), cell(0, 3, 1)}, rect(0, 0, 3, 3), "...\n...\n...\n") // a row does not go on in the next one
}

func TestWriteOfLongSides(t *testing.T) {
	const most = 1 << 16
	writes(t, []api.Cell{cell(most-1, 0, 1), cell(most, 0, 1)}, rect(0, 0, most, 1), strings.Repeat(".", most-1)+"O\n")
	writes(t, []api.Cell{cell(0, most-1, 1), cell(0, most, 1)}, rect(0, 0, 1, most), strings.Repeat(".\n", most-1)+"O\n")
}

func TestWriteAsTheModel(t *testing.T) {
	d := dice(21)
	for range 4000 {
		cells, r := d.living(), d.small()
		want := modelWrite(cells, r)
		writes(t, cells, r, want)
		writes(t, d.strewn(cells), r, want)
	}
}

func TestWriteOfCellsInAnyOrder(t *testing.T) {
	d := dice(22)
	cells, r := d.living(), rect(-5, -4, 17, 13)
	want := mustWrite(t, cells, r)
	slices.Reverse(cells)
	writes(t, cells, r, want)
	for range 200 {
		writes(t, shuffled(&d, cells), r, want)
	}
}

// picture is that of a rectangle from (0, 0) on in which so many of the first places have a state, and the others 0.
func picture(w, h, n int, sign string) string {
	var text strings.Builder
	for range h {
		k := min(n, w)
		text.WriteString(strings.Repeat(sign, k) + strings.Repeat(".", w-k) + "\n")
		n -= k
	}
	return text.String()
}

// first are so many of the first places of a rectangle from (0, 0) on.
func first(w, n int, state uint8) []api.Cell {
	cells := make([]api.Cell, n)
	for i := range cells {
		cells[i] = cell(i%w, i/w, state)
	}
	return cells
}

// TestWriteOfTheLongestTexts: of just MaxText bytes, of one more, and of two.
func TestWriteOfTheLongestTexts(t *testing.T) {
	for _, c := range []struct{ w, h, most int }{ // most: how many cells with a sign of three bytes there may be
		{65535, 16, 0}, {15, 65536, 0}, {1023, 1024, 0}, {1022, 1025, 0}, {1022, 1024, 512}, {31, 32767, 16}, {65535, 15, 32768}, {1 << 16, 15, 32760}, {0, 65536, 0}, {591, 592, 349056}, {1, 65536, 65536},
	} {
		length := c.h * (c.w + 1)
		for _, n := range []int{c.most - 1, c.most, c.most + 1, c.most + 2} {
			if n < 0 || n > c.w*c.h {
				continue
			}
			cells := append(first(max(c.w, 1), n, 200), cell(c.w, 0, 200), cell(-1, 0, 200), cell(0, c.h, 200), cell(0, -1, 200))
			if length+2*n > 1<<20 {
				noPicture(t, cells, rect(0, 0, c.w, c.h), api.ErrText)
			} else {
				writes(t, cells, rect(0, 0, c.w, c.h), picture(c.w, c.h, n, "\u28c8"))
			}
		}
	}
	writes(t, first(1023, 1023*1024, 1), rect(0, 0, 1023, 1024), picture(1023, 1024, 1023*1024, "O")) // a living cell's sign may have one byte
	for _, r := range []api.Rect{rect(0, 0, 61680, 17), rect(0, 0, 16, 61681), rect(0, 0, 65536, 16), rect(0, 0, 1024, 1024), rect(0, 0, 1023, 1025), rect(0, 0, 16, 65536), rect(0, 0, 65536, 65536), rect(-1<<40, 1<<40, 65536, 65535)} {
		noPicture(t, nil, r, api.ErrText)
		noPicture(t, line(0, 0, 100, 1), r, api.ErrText)
	}
}

// TestWriteIsSoonOutOfRoom: a rectangle that is far too large is no work.
func TestWriteIsSoonOutOfRoom(t *testing.T) {
	for range 1000 {
		noPicture(t, nil, rect(0, 0, 1<<16, 1<<16), api.ErrText)
		noHalves(t, nil, rect(0, 0, 1<<16, 1<<16), api.ErrText)
	}
}

// TestWriteOfAllPlaces: each sign at each of many places, told by Sign.
func TestWriteOfAllPlaces(t *testing.T) {
	const w, h = 300, 200
	cells := make([]api.Cell, 0, w*h)
	var want strings.Builder
	for y := range h {
		for x := range w {
			s := uint8(x*7 + y*13)
			cells = append(cells, cell(x-100, y-150, s))
			want.WriteRune(plain.Sign(s))
		}
		want.WriteString("\n")
	}
	writes(t, cells, rect(-100, -150, w, h), want.String())
}
