// Package whole is layer 1: see shared/doc/01-whole.md.
package whole

import (
	"strconv"
	"strings"

	"vivarium/api"
)

// Signed is any kind of whole number with a sign.
type Signed interface {
	~int | ~int8 | ~int16 | ~int32 | ~int64
}

// Mod is the remainder of a by n, from 0 to n - 1.
func Mod[T Signed](a, n T) (T, bool) {
	if n < 1 {
		return 0, false
	}
	r := a % n
	if r < 0 { // the language rounds toward nought, the document down
		r += n
	}
	return r, true
}

// Div is a over n, rounded down.
func Div[T Signed](a, n T) (T, bool) {
	if n < 1 {
		return 0, false
	}
	q := a / n
	if a%n < 0 { // as in Mod; n is above 1 here, so that q is far from the least number
		q--
	}
	return q, true
}

// Add is the sum, if it fits.
func Add[T Signed](a, b T) (T, bool) {
	sum := a + b
	// A sum that wrapped round lies on the wrong side of a.
	if (sum < a) != (b < 0) {
		return 0, false
	}
	return sum, true
}

// Mul is the product, if it fits.
func Mul[T Signed](a, b T) (T, bool) {
	if a == 0 || b == 0 {
		return 0, true
	}
	product := a * b
	// The sign tells of the least number times -1, which dividing back does not see: that wraps round once more.
	if (product < 0) != ((a < 0) != (b < 0)) || product/b != a {
		return 0, false
	}
	return product, true
}

// Gcd is the greatest common divisor, if it fits.
func Gcd[T Signed](a, b T) (T, bool) {
	a, b = notAbove(a), notAbove(b)
	for b != 0 {
		a, b = b, a%b
	}
	divisor := -a
	if divisor < 0 { // the least number turned about wraps round to itself
		return 0, false
	}
	return divisor, true
}

// notAbove is n without a sign, told as a number not above 0: there each number has its like, the least one too.
func notAbove[T Signed](n T) T {
	if n > 0 {
		return -n
	}
	return n
}

// Near is the number from low to high that is nearest to v.
func Near[T Signed](v, low, high T) T {
	if v < low || high < low {
		return low
	}
	if v > high {
		return high
	}
	return v
}

// Fits is n as the other kind, if it fits.
func Fits[T Signed](n int) (T, bool) {
	t := T(n)
	if int(t) != n { // it wrapped round on the way
		return 0, false
	}
	return t, true
}

// Text is the number in tens.
func Text(n int) string {
	return strconv.Itoa(n)
}

// Parse reads a number in tens.
func Parse(s string) (int, api.Errno) {
	if len(s) > api.MaxText {
		return 0, api.ErrText
	}
	if !isNumber(s) {
		return 0, api.ErrNumber
	}
	n, err := strconv.Atoi(s)
	if err != nil { // the letters are right: only the size is left to be wrong
		return 0, api.ErrRange
	}
	return n, api.OK
}

// isNumber looks at the letters alone: strconv takes a plus sign, which the document does not.
func isNumber(s string) bool {
	digits := strings.TrimPrefix(s, "-")
	for i := range len(digits) {
		if digits[i] < '0' || digits[i] > '9' {
			return false
		}
	}
	return digits != ""
}
