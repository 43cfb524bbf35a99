package topo

import (
	"cmp"
	"math"

	"vivarium/api"
	"vivarium/scan"
)

// draft is a text that has the right form, be there sense in it or not.
type draft struct {
	kind  uint8
	parts [sides]part // with one part in the text the height's has its number alone
	end   int
}

// part is what a text says of a side. The letter stands at the place 0: a star or a sign with this place is none.
type part struct {
	at     int
	length int
	star   int
	sign   int
	shift  int
}

// Parse reads a topology's text.
func Parse(s string) (api.Topo, int, api.Errno) {
	if len(s) > api.MaxText {
		return api.Topo{}, 0, api.ErrText
	}
	c := scan.New(s)
	d, e := takeDraft(c)
	if e != api.OK {
		return api.Topo{}, c.At(), e
	}
	if at, e := d.sense(); e != api.OK {
		return api.Topo{}, at, e
	}
	return d.topo(), 0, api.OK
}

// takeDraft goes over a whole text. With an error the cutter stands at its place; so it does in all that takes a piece.
func takeDraft(c *scan.Cutter) (draft, api.Errno) {
	kind, is := takeLetter(c)
	if !is {
		return draft{}, api.ErrKind
	}
	parts, e := takeSides(c, kind)
	switch {
	case e != api.OK:
		return draft{}, e
	case !c.Done():
		return draft{}, api.ErrMore
	}
	return draft{kind: kind, parts: parts, end: c.At()}, api.OK
}

// takeLetter goes over a kind's letter.
func takeLetter(c *scan.Cutter) (kind uint8, is bool) {
	for i := range len(greatLetters) {
		if c.Take(greatLetters[i]) || c.Take(smallLetters[i]) {
			return api.Plane + uint8(i), true
		}
	}
	return 0, false
}

// takeSides goes over what stands behind the letter.
func takeSides(c *scan.Cutter, kind uint8) (parts [sides]part, e api.Errno) {
	switch kind {
	case api.Plane, api.Torus:
		if c.Done() {
			return parts, api.OK
		}
		fallthrough
	case api.Klein, api.Cross:
		return takeParts(c)
	}
	p, e := takeLength(c)
	return [sides]part{width: p, height: p}, e
}

// takeParts goes over one part, or two.
func takeParts(c *scan.Cutter) (parts [sides]part, e api.Errno) {
	p, e := takePart(c)
	parts[width] = p
	if e == api.OK && c.Take(',') {
		parts[height], e = takePart(c)
		return parts, e
	}
	parts[height] = part{at: p.at, length: p.length}
	return parts, e
}

// takePart goes over a side's number and what stands behind it.
func takePart(c *scan.Cutter) (part, api.Errno) {
	p, e := takeLength(c)
	if e != api.OK {
		return part{}, e
	}
	if at := c.At(); c.Take('*') {
		p.star = at
	}
	at := c.At()
	minus := c.Take('-')
	if !minus && !c.Take('+') {
		return p, api.OK
	}
	n, is := takeNumber(c)
	if !is {
		return part{}, api.ErrShift
	}
	if minus {
		n = -n
	}
	p.sign, p.shift = at, n
	return p, api.OK
}

// takeLength goes over a side's number alone.
func takeLength(c *scan.Cutter) (part, api.Errno) {
	at := c.At()
	n, is := takeNumber(c)
	if !is {
		return part{}, api.ErrSide
	}
	return part{at: at, length: n}, api.OK
}

// takeNumber goes over a number of any length. One that fits no int counts as the greatest that does: no side is as long, and no shift as far.
func takeNumber(c *scan.Cutter) (n int, is bool) {
	n, e := c.Number()
	switch e {
	case api.ErrNumber:
		return 0, false
	case api.ErrRange: // then the cutter has stayed ahead of the digits
		takeDigits(c)
		return math.MaxInt, true
	}
	return n, true
}

func takeDigits(c *scan.Cutter) {
	for {
		b, is := c.Peek()
		if !is || b < '0' || b > '9' {
			return
		}
		c.Take(b)
	}
}

// sense is the first thing that may not be, in a text of the right form, and its place.
func (d draft) sense() (int, api.Errno) {
	for _, p := range d.parts {
		if p.length > api.MaxSide {
			return p.at, api.ErrSide
		}
	}
	for _, p := range d.parts {
		if p.length == 0 && natureOf(d.kind).ended {
			return p.at, api.ErrEndless
		}
	}
	if at := d.wrongStar(); at > 0 {
		return at, api.ErrTwist
	}
	if at := d.wrongSign(); at > 0 {
		return at, api.ErrShift
	}
	return 0, api.OK
}

// wrongStar is the place of a star that may not be, or where one lacks; else 0.
func (d draft) wrongStar() int {
	one, other := d.parts[width].star, d.parts[height].star
	switch {
	case !natureOf(d.kind).flips:
		return cmp.Or(one, other)
	case one > 0:
		return other
	case other == 0:
		return d.end
	}
	return 0
}

// wrongSign is the place of the first sign that may not be, where the stars may; else 0.
func (d draft) wrongSign() int {
	signs := 0
	for side, p := range d.parts {
		if p.sign == 0 {
			continue
		}
		signs++
		unstarred := natureOf(d.kind).flips && p.star == 0
		if signs > 1 || unstarred || Check(d.turned(side)) != api.OK {
			return p.sign
		}
	}
	return 0
}

// turned is the topology of the draft's sides with one of them as the turned one.
func (d draft) turned(side int) api.Topo {
	return api.Topo{Kind: d.kind, W: d.parts[width].length, H: d.parts[height].length, Turn: turnOf[side], Shift: d.parts[side].shift}
}

// topo is the topology, of a draft with sense.
func (d draft) topo() api.Topo {
	for side, p := range d.parts {
		if p.star > 0 || p.sign > 0 {
			return d.turned(side)
		}
	}
	return api.Topo{Kind: d.kind, W: d.parts[width].length, H: d.parts[height].length}
}
