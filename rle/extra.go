package rle

import (
	"strings"

	"vivarium/api"
	"vivarium/scan"
	"vivarium/whole"
)

// readExtra reads the line that tells the pattern's place and its generation.
func (r *reader) readExtra(line string, at int) *api.Fault {
	if r.extra {
		return fault(api.ErrExtra, at)
	}
	r.extra = true
	for _, field := range scan.Fields(line[len(extraWord):]) {
		if !r.takeField(field.Text) {
			return fault(api.ErrExtra, at+len(extraWord)+field.At)
		}
	}
	return nil
}

// takeField takes what a field tells, if it may stand here.
func (r *reader) takeField(field string) bool {
	name, worth, _ := strings.Cut(field, "=")
	switch name {
	case placeWord:
		return r.takePlace(worth)
	case genWord:
		return r.takeGen(worth)
	}
	return false
}

func (r *reader) takePlace(worth string) bool {
	left, right, _ := strings.Cut(worth, ",")
	x, isX := number(left, -api.MaxFar, api.MaxFar)
	y, isY := number(right, -api.MaxFar, api.MaxFar)
	if r.doc.Placed || !isX || !isY {
		return false
	}
	r.doc.Placed, r.doc.At = true, api.Point{X: x, Y: y}
	return true
}

func (r *reader) takeGen(worth string) bool {
	n, is := number(worth, 0, api.MaxGen)
	if r.aged || !is {
		return false
	}
	r.aged, r.doc.Gen = true, n
	return true
}

// number is the number of a text, if it has one from low to high.
func number(text string, low, high int) (int, bool) {
	n, e := whole.Parse(text)
	return n, e == api.OK && within(n, low, high)
}

func within(n, low, high int) bool { return low <= n && n <= high }
