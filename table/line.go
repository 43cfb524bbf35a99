package table

import (
	"strings"

	"vivarium/api"
	"vivarium/scan"
)

// blanks are the bytes that do not count at a line's ends.
const blanks = " \t"

// remark begins a line that is passed over.
const remark = "#"

// line is a line of the text without the blanks at its ends, and a cutter that goes through it.
type line struct {
	*scan.Cutter
	first int // where its first byte stands in the text
	text  string
}

// lineOf is the line whose bytes, blanks and all, begin at a place of the text.
func lineOf(at int, raw string) line {
	begun := strings.TrimLeft(raw, blanks)
	return piece(at+len(raw)-len(begun), strings.TrimRight(begun, blanks))
}

// piece is a line of just these bytes.
func piece(first int, text string) line {
	return line{Cutter: scan.New(text), first: first, text: text}
}

// isPassed tells whether nothing is told by the line.
func (l line) isPassed() bool { return l.text == "" || strings.HasPrefix(l.text, remark) }

// word is the name that the line begins with, or nothing.
func (l line) word() string {
	name, _ := scan.New(l.text).Name()
	return name
}

// here is the place in the text where the cutter stands.
func (l line) here() int { return l.first + l.At() }

// takes goes over blanks, and over the byte, if it stands behind them.
func (l line) takes(b byte) bool {
	l.Blanks()
	return l.Take(b)
}

// must goes over blanks and over the byte, which has to stand behind them.
func (l line) must(b byte) {
	if !l.takes(b) {
		giveUp(api.ErrLine, l.here())
	}
}

// ends tells whether nothing but blanks follows.
func (l line) ends() bool {
	l.Blanks()
	return l.Done()
}

// mustEnd looks whether the line ends here, as it has to.
func (l line) mustEnd() {
	if !l.ends() {
		giveUp(api.ErrLine, l.here())
	}
}
