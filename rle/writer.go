package rle

import (
	"slices"
	"strings"

	"vivarium/api"
	"vivarium/scan"
	"vivarium/whole"
)

const (
	bodyEnd = "!"
	longest = 70 // bytes of a line of the body
)

// writer has what was written so far.
type writer struct {
	text strings.Builder
	used int  // bytes of the body's line that is being written
	many bool // whether the tags are those of many states
}

// line writes pieces, and the line's end behind them.
func (w *writer) line(pieces ...string) {
	for _, p := range pieces {
		w.text.WriteString(p)
	}
	w.text.WriteString(lineEnd)
}

// extra writes the line of the place and the generation, if it has something to tell.
func (w *writer) extra(d api.Doc) {
	fields := []string{extraWord}
	if d.Placed {
		fields = append(fields, " ", placeWord, "=", whole.Text(d.At.X), ",", whole.Text(d.At.Y))
	}
	if d.Gen != 0 {
		fields = append(fields, " ", genWord, "=", whole.Text(d.Gen))
	}
	if len(fields) > 1 {
		w.line(fields...)
	}
}

func (w *writer) head(d api.Doc) {
	w.line("x = ", whole.Text(d.W), ", y = ", whole.Text(d.H), ", rule = ", d.Rule)
}

// body writes living cells, which come by rows.
func (w *writer) body(cells []api.Cell) {
	w.many = slices.ContainsFunc(cells, func(c api.Cell) bool { return c.State > 1 })
	var p api.Point // behind what was written
	for len(cells) > 0 {
		first, count := cells[0], alike(cells)
		if first.Y > p.Y {
			w.run(first.Y-p.Y, rowEnd)
			p = api.Point{Y: first.Y}
		}
		if first.X > p.X {
			w.run(first.X-p.X, scan.Tag(0, w.many))
		}
		w.run(count, scan.Tag(first.State, w.many))
		p.X = first.X + count
		cells = cells[count:]
	}
	w.piece(bodyEnd)
	w.line()
}

// alike is how many of the first cells are one run.
func alike(cells []api.Cell) int {
	next := cells[0]
	for i, c := range cells {
		if c != next {
			return i
		}
		next.X++
	}
	return len(cells)
}

func (w *writer) run(count int, tag string) {
	if count > 1 {
		tag = whole.Text(count) + tag
	}
	w.piece(tag)
}

// piece writes a piece of the body, on a new line where this one has no room for it.
func (w *writer) piece(p string) {
	if w.used+len(p) > longest {
		w.line()
		w.used = 0
	}
	w.text.WriteString(p)
	w.used += len(p)
}
