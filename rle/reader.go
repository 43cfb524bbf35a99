package rle

import (
	"strings"

	"vivarium/api"
	"vivarium/scan"
)

// remark begins a line that tells nothing, but for the extra one.
const remark = "#"

// reader has what was read so far.
type reader struct {
	doc   api.Doc
	extra bool // whether there was an extra line
	aged  bool // whether that told a generation
}

// read reads a text up to its first fault, if it has one.
func (r *reader) read(text string) *api.Fault {
	if len(text) > api.MaxText {
		return fault(api.ErrText, 0)
	}
	head, f := r.readAhead(text)
	if f != nil {
		return f
	}
	if f := r.readHead(head); f != nil {
		return f
	}
	_, body, _ := strings.Cut(text[head.At:], lineEnd)
	return r.readBody(body, len(text)-len(body))
}

// readAhead reads the lines ahead of the head, and answers the head's.
func (r *reader) readAhead(text string) (head api.Span, f *api.Fault) {
	for at, line := range scan.Lines(text) {
		switch {
		case strings.HasPrefix(line, extraWord):
			if f := r.readExtra(line, at); f != nil {
				return api.Span{}, f
			}
		case !isPassed(line):
			return api.Span{At: at, Text: line}, nil
		}
	}
	return api.Span{}, fault(api.ErrHead, len(text))
}

// isPassed tells whether a line ahead of the head tells nothing.
func isPassed(line string) bool {
	return strings.HasPrefix(line, remark) || strings.Trim(line, blanks) == ""
}

// readBody reads the runs, which begin at a place of the text.
func (r *reader) readBody(body string, at int) *api.Fault {
	runs, wrong, e := scan.Runs(body)
	if e != api.OK {
		return fault(e, at+wrong)
	}
	var p api.Point
	for _, run := range runs {
		if run.Tag == rowEnd {
			p = api.Point{Y: p.Y + run.Count}
			continue
		}
		state, _ := scan.State(run.Tag) // of a run's other tags each is a state's
		if e := r.lay(p, run.Count, state); e != api.OK {
			return fault(e, at+run.At)
		}
		p.X += run.Count
	}
	return nil
}

// lay puts so many cells of a state from a place on to the right. The dead need no room.
func (r *reader) lay(p api.Point, count int, state uint8) api.Errno {
	switch {
	case state == 0:
		return api.OK
	case p.Y >= r.doc.H || p.X+count > r.doc.W:
		return api.ErrBody
	case len(r.doc.Cells)+count > api.MaxCells:
		return api.ErrBudget
	}
	for x := p.X; x < p.X+count; x++ {
		r.doc.Cells = append(r.doc.Cells, api.Cell{X: x, Y: p.Y, State: state})
	}
	return api.OK
}
