package words

import "vivarium/api"

// Not turns all bits.
func Not(r api.Row) (api.Row, api.Errno) {
	if !Valid(r) {
		return api.Row{}, api.ErrRow
	}
	not := copied(r)
	for i := range not.Words {
		not.Words[i] ^= ^uint64(0)
	}
	cut(not)
	return not, api.OK
}

// And has a bit where both have one.
func And(a, b api.Row) (api.Row, api.Errno) {
	if e := alike(a, b); e != api.OK {
		return api.Row{}, e
	}
	and := copied(a)
	for i, w := range b.Words {
		and.Words[i] &= w
	}
	return and, api.OK
}

// Or has a bit where one has one, or both.
func Or(a, b api.Row) (api.Row, api.Errno) {
	if e := alike(a, b); e != api.OK {
		return api.Row{}, e
	}
	or := copied(a)
	for i, w := range b.Words {
		or.Words[i] |= w
	}
	return or, api.OK
}

// Xor has a bit where just one has one.
func Xor(a, b api.Row) (api.Row, api.Errno) {
	if e := alike(a, b); e != api.OK {
		return api.Row{}, e
	}
	xor := copied(a)
	for i, w := range b.Words {
		xor.Words[i] ^= w
	}
	return xor, api.OK
}
