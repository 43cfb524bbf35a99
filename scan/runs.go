package scan

import "vivarium/api"

const (
	white   = " \t\n\r"
	rowEnd  = "$"
	bodyEnd = '!'
)

// Where there are many states, one letter tells the first 24 living ones; of two letters the first one tells which 24 of those above.
const (
	perLetter = 'X' - 'A' + 1
	firstTwo  = perLetter + 1
)

// Runs cuts a body of runs.
func Runs(s string) ([]api.Run, int, api.Errno) {
	if len(s) > api.MaxText {
		return nil, 0, api.ErrText
	}
	var runs []api.Run
	c := New(s)
body:
	for !c.Done() {
		for i := range len(white) {
			if c.Take(white[i]) {
				continue body
			}
		}
		if c.Take(bodyEnd) {
			return runs, c.At(), api.OK
		}
		run, at, e := c.run()
		if e != api.OK {
			return nil, at, e
		}
		runs = append(runs, run)
	}
	return nil, len(s), api.ErrEarly
}

// run goes over one run; with an error it tells its place.
func (c *Cutter) run() (run api.Run, at int, e api.Errno) {
	first := c.At()
	count, e := c.count()
	if e != api.OK {
		return api.Run{}, first, e
	}
	tag, e := c.tag()
	switch e {
	case api.ErrEarly:
		return api.Run{}, len(c.text), e
	case api.ErrTag:
		return api.Run{}, c.At(), e
	}
	return api.Run{Count: count, Tag: tag, At: first}, 0, api.OK
}

// count goes over a run's count: 1 where it lacks.
func (c *Cutter) count() (int, api.Errno) {
	n, e := c.Number()
	switch {
	case e == api.ErrNumber:
		return 1, api.OK
	case e != api.OK || n < 1 || n > api.MaxFar:
		return 0, api.ErrRange
	}
	return n, api.OK
}

// tag goes over a run's tag, of one byte or of two; with an error the cutter stands where it stood.
func (c *Cutter) tag() (string, api.Errno) {
	rest := c.text[c.at:]
	if rest == "" {
		return "", api.ErrEarly
	}
	long := 1
	if beginsTwo(rest[0]) {
		long = 2
	}
	if len(rest) < long {
		return "", api.ErrEarly
	}
	tag := rest[:long]
	if _, is := State(tag); !is && tag != rowEnd {
		return "", api.ErrTag
	}
	c.at += long
	return tag, api.OK
}

// Tag is the letter or letters of a state.
func Tag(state uint8, many bool) string {
	switch {
	case !many:
		return tagOfTwo(state)
	case state == 0:
		return "."
	case state <= perLetter:
		return string([]byte{'A' + state - 1})
	}
	above := state - firstTwo
	return string([]byte{'p' + above/perLetter, 'A' + above%perLetter})
}

// tagOfTwo is the letter of a state where there are two.
func tagOfTwo(state uint8) string {
	switch state {
	case 0:
		return "b"
	case 1:
		return "o"
	}
	return ""
}

// State is the state of a tag.
func State(tag string) (state uint8, is bool) {
	switch len(tag) {
	case 1:
		return stateOfOne(tag[0])
	case 2:
		return stateOfTwo(tag[0], tag[1])
	}
	return 0, false
}

// stateOfOne is the state that one byte tells, be there two or many.
func stateOfOne(b byte) (uint8, bool) {
	switch {
	case b == 'b' || b == '.':
		return 0, true
	case b == 'o':
		return 1, true
	case isStateLetter(b):
		return b - 'A' + 1, true
	}
	return 0, false
}

// stateOfTwo is the state that two letters tell.
func stateOfTwo(first, second byte) (uint8, bool) {
	if !beginsTwo(first) || !isStateLetter(second) {
		return 0, false
	}
	state := firstTwo + int(first-'p')*perLetter + int(second-'A')
	if state >= api.MaxStates { // the last letter has more behind it than there are states
		return 0, false
	}
	return uint8(state), true
}

// isStateLetter tells whether a letter tells a state by itself, or behind one that begins two.
func isStateLetter(b byte) bool { return within(b, 'A', 'X') }

// beginsTwo tells whether a letter begins a tag of two.
func beginsTwo(b byte) bool { return within(b, 'p', 'y') }
