package whole_test

import (
	"math/big"
	"testing"

	"vivarium/whole"
)

// Kinds made of each width: a constraint without ~ would not take them.
type (
	ownInt   int
	ownInt8  int8
	ownInt16 int16
	ownInt32 int32
	ownInt64 int64
)

// inAllKinds runs one check of each kind, in the order of the names here.
func inAllKinds(t *testing.T, checks [10]func(*testing.T)) {
	t.Helper()
	names := [10]string{"int", "int8", "int16", "int32", "int64", "ownInt", "ownInt8", "ownInt16", "ownInt32", "ownInt64"}
	for i, check := range checks {
		t.Run(names[i], check)
	}
}

func least[T whole.Signed]() T {
	n := T(1)
	for n > 0 {
		n <<= 1
	}
	return n
}

func most[T whole.Signed]() T { return -(least[T]() + 1) }

// samples is every number of the narrowest width, and of a wider one those at which something may go wrong:
// about nought, about both ends, about the roots of the ends, about the ends of the narrower widths.
func samples[T whole.Signed]() []T {
	var list []T
	if most[T]() == 127 {
		for n := -128; n <= 127; n++ {
			list = append(list, T(n))
		}
		return list
	}
	for d := T(0); d < 4; d++ {
		list = append(list, d, -d-1, least[T]()+d, most[T]()-d)
	}
	for power := T(8); power > 0; power <<= 1 {
		list = append(list, power-1, power, power+1, -power-1, -power, 1-power)
	}
	return append(list, 96, -96, 12, -18, 120, -119)
}

// few is a short list of samples, where three of them go together.
func few[T whole.Signed]() []T {
	return []T{least[T](), least[T]() + 1, -5, -1, 0, 1, 2, 5, 100, most[T]() - 1, most[T]()}
}

func wide[T whole.Signed](n T) *big.Int { return big.NewInt(int64(n)) }

// within tells what a call that answers n where it fits must answer.
func within[T whole.Signed](n *big.Int) (T, bool) {
	if n.Cmp(wide(least[T]())) < 0 || n.Cmp(wide(most[T]())) > 0 {
		return 0, false
	}
	return T(n.Int64()), true
}

func eachPair[T whole.Signed](check func(a, b T)) {
	list := samples[T]()
	for _, a := range list {
		for _, b := range list {
			check(a, b)
		}
	}
}
