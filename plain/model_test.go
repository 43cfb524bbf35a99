package plain_test

import (
	"slices"
	"strings"
	"testing"
	"unicode/utf8"

	"vivarium/api"
	"vivarium/plain"
)

// The models: signs by a list of them, a text cut byte by byte, and pictures place by place.

// signs are all that are read, with their states.
func signs() map[rune]uint8 {
	list := map[rune]uint8{46: 0, 32: 0, 95: 0, 79: 1, 111: 1, 42: 1, 35: 1}
	for s := 2; s < 256; s++ {
		list[rune(0x2800+s)] = uint8(s)
	}
	return list
}

// modelSign is the sign of a state, as a text.
func modelSign(s uint8) string {
	switch s {
	case 0:
		return "."
	case 1:
		return "O"
	}
	return string([]byte{0xe2, 0xa0 + s>>6, 0x80 + s&63})
}

// modelRead is what Read answers.
func modelRead(text string) ([]api.Cell, int, api.Errno) {
	if len(text) > 1<<20 {
		return nil, 0, api.ErrText
	}
	var cells []api.Cell
	list := signs()
	y := 0
	for from := 0; from < len(text); {
		end := from
		for end < len(text) && text[end] != 10 {
			end++
		}
		behind := end + 1
		if end > from && text[end-1] == 13 {
			end--
		}
		if from < end && text[from] == '!' {
			from = behind
			continue
		}
		for x := 0; from < end; x++ {
			sign, size := utf8.DecodeRuneInString(text[from:end])
			s, is := list[sign]
			if !is {
				return nil, from, api.ErrRune
			}
			if s > 0 {
				cells = append(cells, cell(x, y, s))
			}
			from += size
		}
		from = behind
		y++
	}
	return cells, 0, api.OK
}

// modelCheck is the error of Write and Halves, but for texts that are too long.
func modelCheck(cells []api.Cell, r api.Rect) api.Errno {
	times := map[api.Point]int{}
	far, twice := false, false
	for _, c := range cells {
		if c.State > 0 {
			far = far || max(c.X, c.Y) > 1<<40 || min(c.X, c.Y) < -1<<40
			times[api.Point{X: c.X, Y: c.Y}]++
			twice = twice || times[api.Point{X: c.X, Y: c.Y}] > 1
		}
	}
	switch {
	case far:
		return api.ErrFar
	case twice:
		return api.ErrMany
	case min(r.W, r.H) < 0 || max(r.W, r.H) > 1<<16:
		return api.ErrPicture
	case max(r.X, r.Y) > 1<<40 || min(r.X, r.Y) < -1<<40:
		return api.ErrFar
	}
	return api.OK
}

// at is the state of a cell at a place; where there is none, 0.
func at(cells []api.Cell, x, y int) uint8 {
	for _, c := range cells {
		if c.X == x && c.Y == y && c.State > 0 {
			return c.State
		}
	}
	return 0
}

// modelWrite is the picture of a small rectangle.
func modelWrite(cells []api.Cell, r api.Rect) string {
	text := ""
	for y := r.Y; y < r.Y+r.H; y++ {
		for x := r.X; x < r.X+r.W; x++ {
			text += modelSign(at(cells, x, y))
		}
		text += "\n"
	}
	return text
}

// modelHalves is the picture in halves of a small rectangle: two rows are taken at a time, a row of nothing below the last one.
func modelHalves(cells []api.Cell, r api.Rect) string {
	rows := strings.SplitAfter(modelWrite(cells, r), "\n")[:r.H]
	if len(rows)%2 == 1 {
		rows = append(rows, strings.Repeat(".", r.W)+"\n")
	}
	blocks := map[[2]bool]string{{false, false}: " ", {true, false}: "\xe2\x96\x80", {false, true}: "\xe2\x96\x84", {true, true}: "\xe2\x96\x88"}
	text := ""
	for i := 0; i < len(rows); i += 2 {
		first, second := []rune(rows[i]), []rune(rows[i+1])
		for x := range r.W {
			text += blocks[[2]bool{first[x] != '.', second[x] != '.'}]
		}
		text += "\n"
	}
	return text
}

// brief is a text that can be told in an error.
func brief(text string) string {
	if len(text) > 300 {
		return text[:150] + " .. " + text[len(text)-150:]
	}
	return text
}

// few are cells that can be told in an error.
func few(cells []api.Cell) []api.Cell { return cells[:min(len(cells), 40)] }

// reads looks at a text that is a picture.
func reads(t *testing.T, text string, want ...api.Cell) {
	t.Helper()
	if cells, at, e := plain.Read(text); !slices.Equal(cells, want) || at != 0 || e != api.OK {
		t.Errorf("Read(%q) = %v, %d, %d, not %v", brief(text), few(cells), at, e, few(want))
	}
}

// refuses looks at a text that is none.
func refuses(t *testing.T, text string, want api.Errno, place int) {
	t.Helper()
	if cells, at, e := plain.Read(text); len(cells) > 0 || at != place || e != want {
		t.Errorf("Read(%q) = %v, %d, %d, not %d at %d", brief(text), few(cells), at, e, want, place)
	}
}

// writes looks at a rectangle that can be drawn.
func writes(t *testing.T, cells []api.Cell, r api.Rect, want string) {
	t.Helper()
	if text, e := plain.Write(cells, r); text != want || e != api.OK {
		t.Errorf("Write(%v; %v) = %q, %d, not %q", few(cells), r, brief(text), e, brief(want))
	}
}

// halves looks at a rectangle that can be drawn in halves.
func halves(t *testing.T, cells []api.Cell, r api.Rect, want string) {
	t.Helper()
	if text, e := plain.Halves(cells, r); text != want || e != api.OK {
		t.Errorf("Halves(%v; %v) = %q, %d, not %q", few(cells), r, brief(text), e, brief(want))
	}
}

// noPicture looks at a rectangle of which Write tells an error.
func noPicture(t *testing.T, cells []api.Cell, r api.Rect, want api.Errno) {
	t.Helper()
	if text, e := plain.Write(cells, r); text != "" || e != want {
		t.Errorf("Write(%v; %v) = %q, %d, not %d", few(cells), r, brief(text), e, want)
	}
}

// noHalves looks at a rectangle of which Halves tells an error.
func noHalves(t *testing.T, cells []api.Cell, r api.Rect, want api.Errno) {
	t.Helper()
	if text, e := plain.Halves(cells, r); text != "" || e != want {
		t.Errorf("Halves(%v; %v) = %q, %d, not %d", few(cells), r, brief(text), e, want)
	}
}

// neither looks at a rectangle of which both tell an error.
func neither(t *testing.T, cells []api.Cell, r api.Rect, want api.Errno) {
	t.Helper()
	noPicture(t, cells, r, want)
	noHalves(t, cells, r, want)
}

// mustWrite is the picture of a rectangle that can be drawn.
func mustWrite(t *testing.T, cells []api.Cell, r api.Rect) string {
	t.Helper()
	text, e := plain.Write(cells, r)
	if e != api.OK {
		t.Fatalf("Write(%v; %v): %d", few(cells), r, e)
	}
	return text
}

// mustRead are the cells of a text that is a picture.
func mustRead(t *testing.T, text string) []api.Cell {
	t.Helper()
	cells, at, e := plain.Read(text)
	if e != api.OK {
		t.Fatalf("Read(%q): %d at %d", brief(text), e, at)
	}
	return cells
}

// cell is a cell.
func cell(x, y int, state uint8) api.Cell { return api.Cell{X: x, Y: y, State: state} }

// line is so many living cells of a state in one row, from a place on.
func line(x, y, n int, state uint8) []api.Cell {
	list := make([]api.Cell, n)
	for i := range list {
		list[i] = cell(x+i, y, state)
	}
	return list
}

// rect is a rectangle.
func rect(x, y, w, h int) api.Rect { return api.Rect{X: x, Y: y, W: w, H: h} }

// moved are cells at other places.
func moved(cells []api.Cell, x, y int) []api.Cell {
	list := slices.Clone(cells)
	for i := range list {
		list[i].X += x
		list[i].Y += y
	}
	return list
}

// dice tells numbers that look as if they came by chance, but are the same each time.
type dice uint64

// below is a number from 0 to n - 1.
func (d *dice) below(n int) int {
	*d = *d*6364136223846793005 + 1442695040888963407
	return int(uint64(*d)>>33) % n
}

// one is one of the items of a list.
func one[T any](d *dice, list []T) T { return list[d.below(len(list))] }

// shuffled are the items of a list in another order.
func shuffled[T any](d *dice, list []T) []T {
	list = slices.Clone(list)
	for i := len(list) - 1; i > 0; i-- {
		j := d.below(i + 1)
		list[i], list[j] = list[j], list[i]
	}
	return list
}

// living are some cells about (0, 0), by rows.
func (d *dice) living() []api.Cell {
	var cells []api.Cell
	dense, states := 1+d.below(9), one(d, []int{2, 3, 256})
	for y := -4; y < 9; y++ {
		for x := -5; x < 12; x++ {
			if d.below(dense) == 0 {
				cells = append(cells, cell(x, y, uint8(1+d.below(states-1))))
			}
		}
	}
	return cells
}

// strewn are cells with some of the state 0 anywhere, in another order.
func (d *dice) strewn(cells []api.Cell) []api.Cell {
	list := slices.Clone(cells)
	for range d.below(6) {
		list = append(list, cell(d.below(20)-8, d.below(20)-8, 0))
	}
	for range d.below(3) {
		list = append(list, cell(one(d, farNumbers), one(d, farNumbers), 0))
	}
	return shuffled(d, list)
}

// farNumbers are numbers that no place has.
var farNumbers = []int{1<<40 + 1, -1<<40 - 1, 1 << 41, -1 << 41, 1<<62 + 1, 1<<63 - 1, -1 << 63}

// small is a rectangle that lies about the cells that living tells.
func (d *dice) small() api.Rect {
	return rect(d.below(12)-8, d.below(12)-8, d.below(20), d.below(16))
}
