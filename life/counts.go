package life

// bit is the count n alone.
func bit(n int) uint16 {
	one := uint16(1)
	one <<= n
	return one
}

// has tells whether n is one of the counts.
func has(counts uint16, n int) bool {
	counts &= bit(n)
	return counts != 0
}

// upTo has all counts from 0 to the greatest one.
func upTo(most int) uint16 {
	all := bit(most + 1)
	all--
	return all
}

// exchanged has the counts as they are where living and dead are exchanged: of n living neighbours most - n live then, and what came to life at so many does not.
func exchanged(counts uint16, most int) uint16 {
	left := upTo(most)
	for n := range most + 1 {
		if has(counts, n) {
			left &^= bit(most - n)
		}
	}
	return left
}
