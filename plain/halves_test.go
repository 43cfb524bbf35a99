package plain_test

import (
	"slices"
	"strings"
	"testing"

	"vivarium/api"
)

// P23.4: pictures in halves.

// The four runes.
const (
	none  = "\u0020"
	upper = "\u2580"
	lower = "\u2584"
	full  = "\u2588"
)

func TestHalvesOfOnePair(t *testing.T) {
	for _, p := range []api.Point{{}, {X: 7, Y: -3}, {X: -1 << 40, Y: 1<<40 - 1}} {
		a, b := cell(p.X, p.Y, 1), cell(p.X, p.Y+1, 1)
		r := rect(p.X, p.Y, 1, 2)
		halves(t, nil, r, none+"\n")
		halves(t, []api.Cell{a}, r, upper+"\n")
		halves(t, []api.Cell{b}, r, lower+"\n")
		halves(t, []api.Cell{a, b}, r, full+"\n")
		halves(t, []api.Cell{b, a}, r, full+"\n")
	}
}

// TestHalvesOfEachState: all but 0 live.
func TestHalvesOfEachState(t *testing.T) {
	for s := 1; s < 256; s++ {
		state := uint8(s)
		halves(t, []api.Cell{cell(0, 0, state), cell(1, 1, state), cell(2, 0, state), cell(2, 1, 256-1-state/2), cell(3, 0, 0)}, rect(0, 0, 4, 2), upper+lower+full+none+"\n")
	}
}

// TestHalvesOfOddSides: below the rectangle no cell lives.
func TestHalvesOfOddSides(t *testing.T) {
	var cells []api.Cell
	for y := -2; y < 9; y++ {
		cells = append(cells, line(-2, y, 9, 1)...)
	}
	for h := range 7 {
		for w := range 5 {
			want := strings.Repeat(strings.Repeat(full, w)+"\n", h/2)
			if h%2 == 1 {
				want += strings.Repeat(upper, w) + "\n"
			}
			halves(t, cells, rect(0, 0, w, h), want)
			halves(t, nil, rect(0, 0, w, h), strings.Repeat(strings.Repeat(none, w)+"\n", (h+1)/2))
		}
	}
	halves(t, []api.Cell{cell(0, 1, 1)}, rect(0, 0, 1, 1), none+"\n")
	halves(t, []api.Cell{cell(0, 1<<40, 1)}, rect(0, 1<<40, 1, 1), upper+"\n")
	halves(t, []api.Cell{cell(0, 1<<40, 1)}, rect(0, 1<<40, 1, 2), upper+"\n")
	halves(t, []api.Cell{cell(0, 1<<40, 1)}, rect(0, 1<<40-1, 1, 2), lower+"\n")
	halves(t, []api.Cell{cell(0, 1<<40, 1)}, rect(0, 1<<40-1, 1, 1), none+"\n")
}

func TestHalvesOfNothing(t *testing.T) {
	cells := []api.Cell{cell(0, 0, 1), cell(5, 6, 2)}
	halves(t, cells, api.Rect{}, "")
	halves(t, cells, rect(0, 0, 1<<16, 0), "")
	halves(t, cells, rect(0, 0, 0, 1), "\n")
	halves(t, cells, rect(0, 0, 0, 2), "\n")
	halves(t, cells, rect(0, 0, 0, 3), "\n\n")
	halves(t, cells, rect(0, 0, 0, 1<<16-1), strings.Repeat("\n", 1<<15))
	halves(t, cells, rect(0, 0, 0, 1<<16), strings.Repeat("\n", 1<<15))
}

// TestHalvesOfTheEdges: each place in a rectangle, and each about it, by itself.
func TestHalvesOfTheEdges(t *testing.T) {
	for _, w := range []int{0, 1, 2, 3} {
		for _, h := range []int{0, 1, 2, 3, 4} {
			for _, p := range []api.Point{{}, {X: 3, Y: -4}, {X: -4, Y: 3}, {X: 1<<40 - 7, Y: -1<<40 + 2}} {
				r := rect(p.X, p.Y, w, h)
				for y := p.Y - 2; y < p.Y+h+2; y++ {
					for x := p.X - 2; x < p.X+w+2; x++ {
						cells := []api.Cell{cell(x, y, 1)}
						halves(t, cells, r, modelHalves(cells, r))
					}
				}
			}
		}
	}
}

func TestHalvesAsTheModel(t *testing.T) {
	d := dice(31)
	for range 4000 {
		cells, r := d.living(), d.small()
		want := modelHalves(cells, r)
		halves(t, cells, r, want)
		halves(t, d.strewn(cells), r, want)
	}
}

// TestHalvesOfLongTexts: its own text counts, not that of Write.
func TestHalvesOfLongTexts(t *testing.T) {
	for _, c := range []struct{ w, h, most int }{ // most: how many places in halves may be other than blank
		{65535, 32, 0}, {65535, 31, 0}, {31, 65536, 0}, {31, 65535, 0}, {1023, 2048, 0}, {1022, 2048, 512}, {1022, 2047, 512}, {1023, 1024, 262144}, {65536, 30, 32760}, {0, 65536, 0},
	} {
		lines := (c.h + 1) / 2
		length := lines * (c.w + 1)
		for _, n := range []int{c.most - 1, c.most, c.most + 1, c.most + 2} {
			if n < 0 || n > c.w*lines {
				continue
			}
			cells := first(max(c.w, 1), n, 1)
			for i := range cells {
				cells[i].Y *= 2
			}
			cells = append(cells, cell(c.w, 0, 1), cell(-1, 0, 1), cell(0, c.h, 1), cell(0, -1, 1))
			if length+2*n > 1<<20 {
				noHalves(t, cells, rect(0, 0, c.w, c.h), api.ErrText)
			} else {
				halves(t, cells, rect(0, 0, c.w, c.h), strings.ReplaceAll(picture(c.w, lines, n, upper), ".", none))
			}
		}
	}
	for _, r := range []api.Rect{rect(0, 0, 61680, 33), rect(0, 0, 61680, 34), rect(0, 0, 65535, 33), rect(0, 0, 65536, 31), rect(0, 0, 32, 65535), rect(0, 0, 65536, 65536)} {
		noHalves(t, nil, r, api.ErrText)
		noPicture(t, nil, r, api.ErrText)
	}
}

// TestOneOfTheTwoTextsIsTooLong: each call tells of its own one.
func TestOneOfTheTwoTextsIsTooLong(t *testing.T) {
	r := rect(0, 0, 65536, 16)
	noPicture(t, nil, r, api.ErrText)
	halves(t, nil, r, strings.Repeat(strings.Repeat(none, 65536)+"\n", 8))
	r = rect(0, 0, 1023, 1024)
	cells := first(1023, 1023*1024, 1)
	writes(t, cells, r, strings.Repeat(strings.Repeat("O", 1023)+"\n", 1024))
	noHalves(t, cells, r, api.ErrText)
	for i := range cells {
		cells[i].State = 255 // three bytes in the one, and as before in the other
	}
	noPicture(t, cells, r, api.ErrText)
	noHalves(t, cells, r, api.ErrText)
	cells, r = first(1023, 1023*300, 255), rect(0, 0, 1023, 500)
	noPicture(t, cells, r, api.ErrText)
	halves(t, cells, r, strings.Repeat(strings.Repeat(full, 1023)+"\n", 150)+strings.Repeat(strings.Repeat(none, 1023)+"\n", 100))
}

func TestHalvesOfCellsInAnyOrder(t *testing.T) {
	d := dice(32)
	cells, r := d.living(), rect(-5, -4, 17, 13)
	want := modelHalves(cells, r)
	slices.Reverse(cells)
	halves(t, cells, r, want)
	for range 200 {
		halves(t, shuffled(&d, cells), r, want)
	}
}
