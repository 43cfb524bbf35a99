package hood

import (
	"vivarium/api"
	"vivarium/iso"
)

// most is the number of neighbours in the greatest neighbourhood: all arrays are of one length, so that they are of one type.
const most = 8

// offsets are those of one neighbourhood, in their order. They are a value: who takes them has a copy, and nothing that is done to it is seen elsewhere.
type offsets struct {
	at   [most]api.Point // behind the first size of them (0, 0), which is no offset
	size int
}

// hoods has the offsets by the neighbourhoods' numbers.
var hoods = [...]offsets{
	api.Moore:   {[most]api.Point{{X: 0, Y: -1}, {X: 1, Y: -1}, {X: 1, Y: 0}, {X: 1, Y: 1}, {X: 0, Y: 1}, {X: -1, Y: 1}, {X: -1, Y: 0}, {X: -1, Y: -1}}, 8},
	api.Neumann: {[most]api.Point{{X: 0, Y: -1}, {X: 1, Y: 0}, {X: 0, Y: 1}, {X: -1, Y: 0}}, 4},
	api.Hex:     {[most]api.Point{{X: 0, Y: -1}, {X: 1, Y: 0}, {X: 1, Y: 1}, {X: 0, Y: 1}, {X: -1, Y: 0}, {X: -1, Y: -1}}, 6},
}

// find is a neighbourhood's offsets.
func find(hood uint8) (offsets, api.Errno) {
	if hood < api.Moore || int(hood) >= len(hoods) {
		return offsets{}, api.ErrHood
	}
	return hoods[hood], api.OK
}

// by has of each offset the number of the one to which the map takes it; false: it takes one to none of them.
func (o offsets) by(m api.Iso) ([most]int, bool) {
	var to [most]int
	for i := range o.size {
		p, e := iso.At(m, o.at[i])
		n, is := number(&o.at, p)
		if e != api.OK || !is {
			return [most]int{}, false
		}
		to[i] = n
	}
	return to, true
}

// number is a place's number among them; false: it is not there. It takes the array's pointer, for it is asked of each offset anew and only looks. (The array's rest is never found: a linear part takes no offset to (0, 0).)
func number(at *[most]api.Point, p api.Point) (int, bool) {
	for i, q := range at {
		if q == p {
			return i, true
		}
	}
	return 0, false
}
