package iso

import (
	"math"

	"vivarium/api"
)

func isFar(n int) bool { return n < -api.MaxFar || n > api.MaxFar }

// number is the complex number that a place is.
func number(x, y int) complex128 { return complex(float64(x), float64(y)) }

// isPlace tells whether a complex number is a place that is not too far.
func isPlace(z complex128) bool { return isWhole(real(z)) && isWhole(imag(z)) }

// isWhole tells whether it is a whole number that is not too far; what is no number is neither below nor above any, and so isn't.
func isWhole(x float64) bool {
	return x >= -api.MaxFar && x <= api.MaxFar && x == math.Trunc(x)
}

func conj(z complex128) complex128 { return complex(real(z), -imag(z)) }

// turned is where the linear part of a map takes z.
func turned(m api.Iso, z complex128) complex128 {
	if m.Flip {
		z = conj(z)
	}
	return m.Turn * z
}

// moved is where a map takes z.
func moved(m api.Iso, z complex128) complex128 { return turned(m, z) + m.Move }

// join is a, and behind it b, however far that goes: what a turns by and where it takes 0 to, seen by b.
func join(a, b api.Iso) api.Iso {
	return api.Iso{
		Turn: unsigned(turned(b, a.Turn)),
		Flip: a.Flip != b.Flip,
		Move: unsigned(moved(b, a.Move)),
	}
}

// unsigned is z with noughts without a sign: products by -1 make them with one.
func unsigned(z complex128) complex128 { return complex(plain(real(z)), plain(imag(z))) }

func plain(x float64) float64 {
	if x == 0 {
		return 0
	}
	return x
}
