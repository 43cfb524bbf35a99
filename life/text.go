package life

import (
	"strings"

	"vivarium/api"
	"vivarium/hood"
	"vivarium/scan"
)

// What stands ahead of each list.
const (
	bornHead = "B"
	stayHead = "/S"
)

// digits has each digit at the place of the count that it tells.
const digits = "0123456789"

// Parse reads a rule of births and stays.
func Parse(s string) (api.Life, int, api.Errno) {
	if len(s) > api.MaxText {
		return api.Life{}, 0, api.ErrText
	}
	c := scan.New(s)
	l, e := read(c)
	if e != api.OK {
		return api.Life{}, c.At(), e
	}
	if at, is := tooGreat(s, l.Hood); is {
		return api.Life{}, at, api.ErrCount
	}
	return l, 0, api.OK
}

// read goes over a text, but for how great its counts are. With an error the cutter stands at its place.
func read(c *scan.Cutter) (api.Life, api.Errno) {
	var lists [2]uint16
	fault := api.OK
text:
	for i, head := range [...]string{bornHead, stayHead} {
		for j := range len(head) {
			if !takes(c, head[j]) {
				fault = api.ErrLife
				break text
			}
		}
		for n, is := nextDigit(c); is; n, is = nextDigit(c) {
			if has(lists[i], n) {
				fault = api.ErrTwice
				break text
			}
			lists[i] |= bit(n)
			c.Take(digits[n])
		}
	}
	if fault != api.OK {
		return api.Life{}, fault
	}
	l := api.Life{Hood: takeHood(c), Born: lists[0], Stay: lists[1]}
	if !c.Done() {
		return api.Life{}, api.ErrLife
	}
	return l, api.OK
}

// takes goes over a byte, a great letter's small one standing for it as well.
func takes(c *scan.Cutter, b byte) bool {
	if c.Take(b) {
		return true
	}
	return 'A' <= b && b <= 'Z' && c.Take(b-'A'+'a')
}

// nextDigit is the count that the next byte tells, if it is a digit. (The cutter stays: a digit that stands twice is told where it stands.)
func nextDigit(c *scan.Cutter) (int, bool) {
	b, _ := c.Peek() // at the end the byte is 0, no digit either
	n := strings.IndexByte(digits, b)
	return n, n >= 0
}

// takeHood goes over a neighbourhood's letter; where there is none it is Moore's.
func takeHood(c *scan.Cutter) uint8 {
	switch {
	case takes(c, 'V'):
		return api.Neumann
	case takes(c, 'H'):
		return api.Hex
	}
	return api.Moore
}

// tooGreat is the place of the first digit above the neighbourhood's greatest count. The neighbourhood is told behind the digits, so they are gone through once more; in a text that could be read all of them are counts.
func tooGreat(s string, near uint8) (at int, is bool) {
	most, _ := hood.Size(near)
	at = strings.IndexAny(s, digits[most+1:])
	return at, at >= 0
}

// Print writes it in its one form.
func Print(l api.Life) (string, api.Errno) {
	if e := Check(l); e != api.OK {
		return "", e
	}
	return bornHead + told(l.Born) + stayHead + told(l.Stay) + letter(l.Hood), api.OK
}

// told are the digits of the counts, rising.
func told(counts uint16) string {
	var text strings.Builder
	for n := range len(digits) {
		if has(counts, n) {
			text.WriteByte(digits[n])
		}
	}
	return text.String()
}

// letter tells a neighbourhood at a text's end.
func letter(near uint8) string {
	switch near {
	case api.Neumann:
		return "V"
	case api.Hex:
		return "H"
	}
	return ""
}
