package packed

import (
	"vivarium/api"
	"vivarium/words"
)

const (
	wide     = 64 // bits of a word
	mostNear = 8  // neighbours of a cell, at most
)

// sight is what cells see in a row with a place more at both ends: to their left, straight, to their right. Bit i of each is what the cell number i sees there.
type sight [3]api.Row

const (
	left = iota
	straight
	right
)

// lookAt is what the cells of a row, or those below or above it, see in it.
func lookAt(r api.Row) sight {
	return sight{left: from(r, 0), straight: from(r, 1), right: from(r, 2)}
}

// from are a row's bits from a place on, two fewer than it has; the place is at most 2.
func from(r api.Row, place int) api.Row {
	bits, _ := words.New(r.N - 2) // the row has three at least
	for i := range bits.Words {
		bits.Words[i] = r.Words[i]
		bits.Words[i] >>= place
		if i+1 < len(r.Words) { // from the place 0 on this moves all of it out
			bits.Words[i] |= r.Words[i+1] << (wide - place)
		}
	}
	// What lies behind the last cell is no cell.
	last := ^uint64(0)
	last >>= len(bits.Words)*wide - bits.N
	bits.Words[len(bits.Words)-1] &= last
	return bits
}

// next are the cells of a row one generation later, by what they see above them, in their own row and below.
func next(l api.Life, above, here, below sight) api.Row {
	return told(l, here[straight], near(l.Hood, above, here, below))
}

// near is how many neighbours of each cell live. The offsets are chapter 7's; they stand here once more, for this layer does not stand on hood.
func near(hood uint8, above, here, below sight) [4]api.Row {
	var count [4]api.Row
	switch hood {
	case api.Moore:
		count, _ = words.Count(above[left], above[straight], above[right], here[left], here[right], below[left], below[straight], below[right])
	case api.Neumann:
		count, _ = words.Count(above[straight], here[left], here[right], below[straight])
	case api.Hex: // the corners at the right above and at the left below are no neighbours
		count, _ = words.Count(above[left], above[straight], here[left], here[right], below[straight], below[right])
	}
	return count
}

// told are the cells that live next, by those that live here and by how many neighbours of each do.
func told(l api.Life, here api.Row, count [4]api.Row) api.Row {
	born, _ := words.New(here.N)
	stay, _ := words.New(here.N)
	for n := range mostNear + 1 {
		if !has(l.Born|l.Stay, n) {
			continue
		}
		there, _ := words.Is(count, n)
		if has(l.Born, n) {
			gather(born, there)
		}
		if has(l.Stay, n) {
			gather(stay, there)
		}
	}
	for i, w := range here.Words {
		born.Words[i] &^= w
		stay.Words[i] &= w
	}
	gather(born, stay)
	return born
}

// has tells whether n is one of a rule's counts.
func has(counts uint16, n int) bool { return counts>>n&1 == 1 }

// gather writes the bits of more into a row that is being made.
func gather(into, more api.Row) {
	for i, w := range more.Words {
		into.Words[i] |= w
	}
}
