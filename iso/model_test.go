package iso_test

import (
	"math"
	"testing"

	"vivarium/api"
)

// The model says the chapter's promises once more, by other means than the package: a map is a square of four whole numbers and a move of two, and no complex number is in it.

const far = api.MaxFar

// plan takes (x, y) to (xx*x + xy*y + mx, yx*x + yy*y + my).
type plan struct{ xx, xy, yx, yy, mx, my int }

// part is a column of the chapter's table of linear parts.
type part struct {
	turn complex128
	flip bool
	plan plan
}

var eight = [8]part{
	{1, false, plan{xx: 1, yy: 1}},   // (x, y)
	{1i, false, plan{xy: -1, yx: 1}}, // (-y, x)
	{-1, false, plan{xx: -1, yy: -1}},
	{-1i, false, plan{xy: 1, yx: -1}},
	{1, true, plan{xx: 1, yy: -1}}, // (x, -y)
	{1i, true, plan{xy: 1, yx: 1}},
	{-1, true, plan{xx: -1, yy: 1}},
	{-1i, true, plan{xy: -1, yx: -1}},
}

// planOf is the plan with the linear part k and that move.
func planOf(k, mx, my int) plan {
	p := eight[k].plan
	p.mx, p.my = mx, my
	return p
}

func (p plan) at(q api.Point) api.Point {
	return api.Point{X: p.xx*q.X + p.xy*q.Y + p.mx, Y: p.yx*q.X + p.yy*q.Y + p.my}
}

// then is the product of the squares; b is done behind a.
func (a plan) then(b plan) plan {
	move := b.at(api.Point{X: a.mx, Y: a.my})
	return plan{
		xx: b.xx*a.xx + b.xy*a.yx, xy: b.xx*a.xy + b.xy*a.yy,
		yx: b.yx*a.xx + b.yy*a.yx, yy: b.yx*a.xy + b.yy*a.yy,
		mx: move.X, my: move.Y,
	}
}

// back is the square mirrored at its diagonal, which for these takes back.
func (p plan) back() plan {
	b := plan{xx: p.xx, xy: p.yx, yx: p.xy, yy: p.yy}
	move := b.at(api.Point{X: p.mx, Y: p.my})
	b.mx, b.my = -move.X, -move.Y
	return b
}

// which is the number of the linear part with that square.
func (p plan) which() int {
	p.mx, p.my = 0, 0
	for k, l := range eight {
		if l.plan == p {
			return k
		}
	}
	panic("no plan of the eight")
}

func (p plan) iso() api.Iso {
	l := eight[p.which()]
	return api.Iso{Turn: l.turn, Flip: l.flip, Move: complex(float64(p.mx), float64(p.my))}
}

func isNear(p api.Point) bool { return -far <= p.X && p.X <= far && -far <= p.Y && p.Y <= far }

func (p plan) isNear() bool { return isNear(api.Point{X: p.mx, Y: p.my}) }

// everyPlan has all linear parts with all moves of those numbers.
func everyPlan(numbers ...int) []plan {
	var all []plan
	for k := range eight {
		for _, x := range numbers {
			for _, y := range numbers {
				all = append(all, planOf(k, x, y))
			}
		}
	}
	return all
}

// everyPlace has all places of those numbers.
func everyPlace(numbers ...int) []api.Point {
	var all []api.Point
	for _, x := range numbers {
		for _, y := range numbers {
			all = append(all, api.Point{X: x, Y: y})
		}
	}
	return all
}

var minusNought = math.Copysign(0, -1)

// signed is z with a sign at each nought of it.
func signed(z complex128) complex128 {
	x, y := real(z), imag(z)
	if x == 0 {
		x = minusNought
	}
	if y == 0 {
		y = minusNought
	}
	return complex(x, y)
}

func signedMap(m api.Iso) api.Iso {
	return api.Iso{Turn: signed(m.Turn), Flip: m.Flip, Move: signed(m.Move)}
}

func hasSignedNought(z complex128) bool {
	return real(z) == 0 && math.Signbit(real(z)) || imag(z) == 0 && math.Signbit(imag(z))
}

// isMap looks at a map that was answered, its noughts' signs too.
func isMap(t *testing.T, what string, m api.Iso, e api.Errno, want api.Iso) {
	t.Helper()
	if m != want || e != api.OK {
		t.Errorf("%s = %v, %d, not %v", what, m, e, want)
	}
	if hasSignedNought(m.Turn) || hasSignedNought(m.Move) {
		t.Errorf("%s = %v: a nought with a sign", what, m)
	}
}

// noMap looks at an error, beside which the map is the zero one.
func noMap(t *testing.T, what string, m api.Iso, e, want api.Errno) {
	t.Helper()
	if m != (api.Iso{}) || hasSignedNought(m.Turn) || hasSignedNought(m.Move) || e != want {
		t.Errorf("%s = %v, %d, not %d", what, m, e, want)
	}
}

// wrongTurns are none of the four.
func wrongTurns() []complex128 {
	nan, inf := math.NaN(), math.Inf(1)
	above, below := math.Nextafter(1, 2), math.Nextafter(1, 0)
	tiny := math.SmallestNonzeroFloat64
	all := []complex128{0, 2, 2i, -2, -2i, 0.5, -0.5i, 1 + 1i, 1 - 1i, -1 + 1i, -1 - 1i, complex(math.Sqrt(0.5), math.Sqrt(0.5))}
	all = append(all, complex(minusNought, minusNought), complex(far, 0), complex(0, math.MaxFloat64))
	for _, x := range []float64{nan, inf, -inf, above, -above, below, -below} {
		all = append(all, complex(x, 0), complex(0, x), complex(x, x))
	}
	for _, x := range []float64{nan, inf, -inf, tiny, -tiny, 1} {
		all = append(all, complex(1, x), complex(-1, x), complex(x, 1), complex(x, -1))
	}
	return all
}

// wrongNumbers are no parts of a Move.
func wrongNumbers() []float64 {
	return []float64{
		math.NaN(), math.Inf(1), math.Inf(-1),
		0.5, -0.5, 1.5, -3.75, math.SmallestNonzeroFloat64, -math.SmallestNonzeroFloat64, math.Nextafter(1, 0), math.Nextafter(-7, 0),
		far + 1, -far - 1, far - 0.5, -far + 0.5, far + 0.5, -far - 0.5,
		math.Nextafter(far, math.Inf(1)), math.Nextafter(far, 0), math.Nextafter(-far, math.Inf(-1)), math.Nextafter(-far, 0),
		2 * far, -2 * far, 1 << 62, 1 << 63, -1 << 63, 1 << 64, math.MaxFloat64, -math.MaxFloat64,
	}
}

// wrongMaps may not be, for one reason each, the rest of them being well.
func wrongMaps() []api.Iso {
	var all []api.Iso
	for _, flip := range []bool{false, true} {
		for _, turn := range wrongTurns() {
			all = append(all, api.Iso{Turn: turn, Flip: flip}, api.Iso{Turn: turn, Flip: flip, Move: 3 - 4i})
		}
		for _, x := range wrongNumbers() {
			for k := range 4 {
				for _, move := range []complex128{complex(x, 0), complex(0, x), complex(x, -far), complex(far, x), complex(x, x)} {
					all = append(all, api.Iso{Turn: eight[k].turn, Flip: flip, Move: move})
				}
			}
		}
	}
	return all
}
