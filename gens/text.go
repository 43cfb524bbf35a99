package gens

import (
	"strconv"
	"strings"

	"vivarium/api"
	"vivarium/life"
	"vivarium/scan"
)

// digits has each digit at the place of the count that it tells.
const digits = "0123456789"

// tooGreat is the one digit above Moore's greatest count.
const tooGreat = '9'

// letters may stand ahead of how many states there are.
const letters = "CcGg"

// Parse reads a rule whose dead fade.
func Parse(s string) (api.Gens, int, api.Errno) {
	if len(s) > api.MaxText {
		return api.Gens{}, 0, api.ErrText
	}
	read := readLists
	if strings.HasPrefix(s, "B") || strings.HasPrefix(s, "b") {
		read = readLettered
	}
	l, at, e := read(s)
	if e != api.OK {
		return api.Gens{}, at, e
	}
	states, at, e := readStates(s, at)
	if e != api.OK {
		return api.Gens{}, at, e
	}
	return api.Gens{Life: l, States: states}, 0, api.OK
}

// readLettered reads the births and stays of a text with letters ahead of them. The place is that of the second slash, or the text's length, or that of a fault.
func readLettered(s string) (api.Life, int, api.Errno) {
	end := secondSlash(s)
	l, at, e := life.Parse(s[:end])
	if e != api.OK {
		return api.Life{}, at, e
	}
	return l, end, api.OK
}

// secondSlash is the place of the second slash, or the text's length.
func secondSlash(s string) int {
	parts := strings.SplitN(s, "/", 3)
	if len(parts) < 3 {
		return len(s)
	}
	return len(s) - len(parts[2]) - 1
}

// readLists reads the stays and births of a text that has no letters. The place is that of the second slash, or of a fault.
func readLists(s string) (api.Life, int, api.Errno) {
	var lists [2]uint16
	c := scan.New(s)
	for i := range lists {
		var e api.Errno
		lists[i], e = takeList(c)
		if e != api.OK {
			return api.Life{}, c.At(), e
		}
	}
	end := c.At() - 1
	if at := strings.IndexByte(s[:end], tooGreat); at >= 0 {
		return api.Life{}, at, api.ErrCount
	}
	return api.Life{Hood: api.Moore, Stay: lists[0], Born: lists[1]}, end, api.OK
}

// takeList goes over the digits of a list and the slash behind them. With an error the cutter stands at its place.
func takeList(c *scan.Cutter) (uint16, api.Errno) {
	var counts uint16
	for !c.Take('/') {
		b, _ := c.Peek() // at the end the byte is 0, no digit either
		n := strings.IndexByte(digits, b)
		if n < 0 {
			return 0, api.ErrLife
		}
		count := uint16(1) << n
		if counts&count != 0 {
			return 0, api.ErrTwice
		}
		counts |= count
		c.Take(b)
	}
	return counts, api.OK
}

// readStates reads how many states there are, from the second slash on, and tells the place of a fault. A byte that can't stand behind the digits counts ahead of how great their number is, so they are gone over twice.
func readStates(s string, slash int) (states, at int, e api.Errno) {
	c := scan.New(s[slash:])
	c.Take('/')
	takeLetter(c)
	first := slash + c.At()
	if rest := strings.TrimLeft(s[first:], digits); rest != "" {
		return 0, len(s) - len(rest), api.ErrGens
	}
	states, e = c.Number()
	if e != api.OK || !mayBe(states) {
		return 0, first, api.ErrGens
	}
	return states, 0, api.OK
}

// takeLetter goes over the letter ahead of the number, if there is one.
func takeLetter(c *scan.Cutter) {
	for i := range len(letters) {
		if c.Take(letters[i]) {
			return
		}
	}
}

// Print writes it in its one form.
func Print(g api.Gens) (string, api.Errno) {
	if e := Check(g); e != api.OK {
		return "", e
	}
	text, _ := life.Print(g.Life) // Check has looked at it
	return text + "/C" + strconv.Itoa(g.States), api.OK
}
