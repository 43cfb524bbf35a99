package rle

import (
	"strings"

	"vivarium/api"
	"vivarium/scan"
)

// usualRule is the rule of a head that names none.
const usualRule = "B3/S23"

// The pieces of a head by their numbers: sides and the rule's text, all others are words.
const (
	widthPiece  = 2
	heightPiece = 6
	sidesEnd    = 7 // a head may end ahead of this one
	rulePiece   = 10
)

// headWords has the words, and nothing where a side stands.
var headWords = [rulePiece]string{"x", "=", "", ",", "y", "=", "", ",", "rule", "="}

// readHead reads the head's line. Its end is meant without blanks.
func (r *reader) readHead(line api.Span) *api.Fault {
	text := strings.TrimRight(line.Text, blanks)
	c := scan.New(text)
	n := 0
piece:
	c.Blanks()
	first := c.At()
	switch {
	case n == sidesEnd && c.Done():
		r.doc.Rule = usualRule
		return nil
	case n == rulePiece:
		return r.takeRule(text[first:], line.At+first)
	}
	switch e := r.takePiece(c, n); e {
	case api.ErrHead:
		return fault(e, line.At+c.At())
	case api.ErrFar: // a number is far as a whole
		return fault(e, line.At+first)
	}
	n++
	goto piece
}

// takePiece goes over the piece with this number. With ErrHead the cutter stands at the byte that can't stand there.
func (r *reader) takePiece(c *scan.Cutter, n int) api.Errno {
	switch n {
	case widthPiece:
		return takeSide(c, &r.doc.W)
	case heightPiece:
		return takeSide(c, &r.doc.H)
	}
	return takeWord(c, headWords[n])
}

func takeSide(c *scan.Cutter, side *int) api.Errno {
	n, e := c.Number()
	switch {
	case e == api.ErrNumber:
		return api.ErrHead
	case e != api.OK || n > api.MaxFar:
		return api.ErrFar
	}
	*side = n
	return api.OK
}

func takeWord(c *scan.Cutter, word string) api.Errno {
	for i := range len(word) {
		if !c.Take(word[i]) {
			return api.ErrHead
		}
	}
	return api.OK
}

// takeRule takes the rule's text, which begins at a place of the whole one. It is copied, so that a pattern does not hold that in memory.
func (r *reader) takeRule(text string, at int) *api.Fault {
	if text == "" {
		return fault(api.ErrHead, at)
	}
	if i := strings.IndexByte(text, '\r'); i >= 0 {
		return fault(api.ErrHead, at+i)
	}
	r.doc.Rule = strings.Clone(text)
	return nil
}
