package words

import "vivarium/api"

// Up moves each bit to the next higher place; in comes to the place 0, what was highest comes out.
func Up(r api.Row, in bool) (api.Row, bool, api.Errno) {
	if !Valid(r) {
		return api.Row{}, false, api.ErrRow
	}
	up := copied(r)
	if r.N == 0 { // what comes in goes straight out
		return up, in, api.OK
	}
	carry := uint64(0)
	for i, w := range r.Words {
		up.Words[i] <<= 1
		up.Words[i] |= carry
		carry = w >> (wide - 1)
	}
	cut(up)
	if in {
		raise(up, 0)
	}
	return up, has(r, r.N-1), api.OK
}

// Down moves each bit to the next lower place; in comes to the highest, what was lowest comes out.
func Down(r api.Row, in bool) (api.Row, bool, api.Errno) {
	if !Valid(r) {
		return api.Row{}, false, api.ErrRow
	}
	down := copied(r)
	if r.N == 0 { // as in Up
		return down, in, api.OK
	}
	carry := uint64(0)
	for i := len(r.Words) - 1; i >= 0; i-- {
		down.Words[i] >>= 1
		down.Words[i] |= carry
		carry = r.Words[i] << (wide - 1)
	}
	if in {
		raise(down, r.N-1)
	}
	return down, has(r, 0), api.OK
}

// Turned is the row from its other end.
func Turned(r api.Row) (api.Row, api.Errno) {
	if !Valid(r) {
		return api.Row{}, api.ErrRow
	}
	turned := blank(r.N)
	for i := range places(r.Words) {
		raise(turned, r.N-1-i)
	}
	return turned, api.OK
}
