package scan

import (
	"strings"

	"vivarium/api"
	"vivarium/whole"
)

// Cutter goes through a text byte by byte.
type Cutter struct {
	made bool // by New: a cutter of no text is otherwise a zero one
	text string
	at   int
}

// New is a cutter at a text's beginning.
func New(s string) *Cutter {
	return &Cutter{made: true, text: s}
}

// lacks tells whether New did not make this cutter.
func (c *Cutter) lacks() bool { return c == nil || !c.made }

// At is where the cutter stands.
func (c *Cutter) At() int {
	if c.lacks() {
		return 0
	}
	return c.at
}

// Done tells whether the cutter stands at the text's end.
func (c *Cutter) Done() bool {
	return !c.lacks() && c.at == len(c.text)
}

// Peek is the next byte, if there is one.
func (c *Cutter) Peek() (byte, bool) {
	if c.lacks() || c.at == len(c.text) {
		return 0, false
	}
	return c.text[c.at], true
}

// Take goes over a byte, if it is the next one.
func (c *Cutter) Take(b byte) bool {
	next, is := c.Peek()
	if !is || next != b {
		return false
	}
	c.at++
	return true
}

// Blanks goes over blanks and tabs, and tells how many they were.
func (c *Cutter) Blanks() int {
	if c.lacks() {
		return 0
	}
	return len(c.take(isBlank))
}

// ahead is the longest piece of bytes of a kind that follows.
func (c *Cutter) ahead(is func(byte) bool) string {
	return c.text[c.at:over(c.text, c.at, is)]
}

// take goes over the longest piece of bytes of a kind that follows.
func (c *Cutter) take(is func(byte) bool) string {
	piece := c.ahead(is)
	c.at += len(piece)
	return piece
}

// Number goes over a number in tens.
func (c *Cutter) Number() (int, api.Errno) {
	if c.lacks() {
		return 0, api.ErrNil
	}
	digits := c.ahead(isDigit)
	if digits == "" {
		return 0, api.ErrNumber
	}
	n, fits := worth(digits)
	if !fits {
		return 0, api.ErrRange
	}
	c.at += len(digits)
	return n, api.OK
}

// worth is the number that digits tell, if it fits an int. There may be more of them than whole reads of one text: noughts ahead are none of its business, and as many others can't fit.
func worth(digits string) (int, bool) {
	counting := strings.TrimLeft(digits, "0")
	if counting == "" {
		return 0, true
	}
	n, e := whole.Parse(counting)
	return n, e == api.OK
}

// Name goes over a name.
func (c *Cutter) Name() (string, api.Errno) {
	if c.lacks() {
		return "", api.ErrNil
	}
	if b, _ := c.Peek(); !isLetter(b) { // at the end the byte is 0, no letter either
		return "", api.ErrTag
	}
	if len(c.ahead(isNamed)) > api.MaxName {
		return "", api.ErrMany
	}
	return c.take(isNamed), api.OK
}
