package linear_test

import (
	"slices"
	"testing"

	"vivarium/api"
	"vivarium/linear"
)

// P17.2

func TestTimesAgainstPairs(t *testing.T) {
	d := dice(7)
	var lists [][]api.Point
	for _, many := range []int{0, 1, 2, 3, 7, 30, 64} {
		lists = append(lists, d.offsets(many, 1+many), d.offsets(many, 5+many/8), d.offsets(many, api.MaxFar/2))
	}
	answered := 0
	for _, a := range lists {
		for _, b := range lists {
			list, e := linear.Times(a, b)
			has(t, "Times", list, e, modelTimes(a, b))
			answered = max(answered, len(list))
		}
	}
	if answered < 4000 { // 64 times 64 that are far from each other
		t.Errorf("at most %d were answered", answered)
	}
}

func TestTimesOfManyThatStayApart(t *testing.T) {
	var a, b []api.Point
	for i := range 64 {
		a = append(a, at(63-i, 0))
		b = append(b, at(0, i*(1-2*(i%2))))
	}
	list, e := linear.Times(a, b)
	if e != api.OK || len(list) != 4096 {
		t.Fatalf("%d offsets, %d", len(list), e)
	}
	if !slices.Equal(list, sorted(list)) || len(slices.Compact(slices.Clone(list))) != 4096 {
		t.Error("not by rows, from the left, none twice")
	}
}

// TestTimesTakesOutWhatComesAboutTwice: by the same sum once more each offset twice as far is left, for all else comes about in two orders.
func TestTimesTakesOutWhatComesAboutTwice(t *testing.T) {
	list, e := linear.Times(along(64), along(64))
	has(t, "64 in a row, twice", list, e, modelTimes(along(64), along(64)))
	if len(list) != 64 {
		t.Errorf("%d offsets", len(list))
	}
	list, e = linear.Times(along(64), places(0, 0, 1, 0))
	has(t, "64 in a row, and a pair", list, e, places(0, 0, 64, 0))
	list, e = linear.Times(places(0, 0, 1, 0, 0, 1), places(0, 0, 1, 0, 0, 1))
	has(t, "three", list, e, places(0, 0, 2, 0, 0, 2))
}

func TestTimesOfOneAndOfNone(t *testing.T) {
	list := places(5, 1, -5, 1, 0, -7, api.MaxFar, 0)
	for _, none := range [][]api.Point{nil, {}} {
		got, e := linear.Times(list, none)
		has(t, "by none", got, e, nil)
		got, e = linear.Times(none, list)
		has(t, "none by", got, e, nil)
	}
	got, e := linear.Times(list, places(0, 0))
	has(t, "by what moves nothing", got, e, places(0, -7, api.MaxFar, 0, -5, 1, 5, 1))
	got, e = linear.Times(places(-1, 2), list)
	has(t, "by one", got, e, places(-1, -5, api.MaxFar-1, 2, -6, 3, 4, 3))
}

func TestTimesRefusesOffsets(t *testing.T) {
	good := places(0, 0, 1, 0)
	far := places(api.MaxFar, 0)
	for _, c := range wrongOffsets() {
		for _, other := range [][]api.Point{nil, good, far} {
			list, e := linear.Times(c.offsets, other)
			refused(t, "a", list, e, c.e)
			list, e = linear.Times(other, c.offsets)
			refused(t, "b", list, e, c.e)
		}
		for _, d := range wrongOffsets() {
			list, e := linear.Times(c.offsets, d.offsets)
			refused(t, "a ahead of b", list, e, c.e)
		}
	}
}

func TestTimesThatLiesTooFar(t *testing.T) {
	m := api.MaxFar
	for _, c := range []struct{ a, b []api.Point }{
		{places(m, 0), places(1, 0)},
		{places(-m, 0), places(-1, 0)},
		{places(0, m), places(0, 1)},
		{places(0, -m), places(0, -1)},
		{places(m, m), places(m, m)},
		{places(-m, -m), places(-m, -m)},
		{places(0, 0, m, 0), places(0, 0, 0, 1, 1, 0)},
		{places(0, 0, m, 0), places(0, 0, m, 0)}, // 2 * m comes about once, m twice
		{places(m, 0, m-1, 0, m-2, 0), places(0, 0, 1, 0, 2, 0)},
	} {
		list, e := linear.Times(c.a, c.b)
		refused(t, "too far", list, e, api.ErrFar)
		list, e = linear.Times(c.b, c.a)
		refused(t, "too far, turned about", list, e, api.ErrFar)
	}
}

func TestTimesJustNotTooFar(t *testing.T) {
	m := api.MaxFar
	for _, c := range []struct{ a, b, want []api.Point }{
		{places(m-1, 0), places(1, 0), places(m, 0)},
		{places(-m, m), places(0, 0), places(-m, m)},
		{places(m/2, -m/2), places(m/2, -m/2), places(m, -m)},
		{places(-m, -m), places(m, m), places(0, 0)},
		{places(m, 0), places(-m, 0, -m, 1), places(0, 0, 0, 1)},
	} {
		list, e := linear.Times(c.a, c.b)
		has(t, "not too far", list, e, c.want)
	}
}

// TestTimesTooFarTwice: two that lie too far come to the same place, so that it is not answered. What is answered alone counts; but of each pair of lists that is so, the sum of the two outermost offsets comes about once, and lies too far as well.
func TestTimesTooFarTwice(t *testing.T) {
	m, d := api.MaxFar, dice(11)
	list, e := linear.Times(places(m, 0, m-1, 0), places(1, 0, 2, 0)) // (m + 1, 0) twice, (m + 2, 0) once
	refused(t, "in a row", list, e, api.ErrFar)
	list, e = linear.Times(places(m, 0, m, 1), places(1, 0, 1, 1)) // (m + 1, 1) twice, (m + 1, 0) and (m + 1, 2) once
	refused(t, "in a column", list, e, api.ErrFar)
	tooFar := func(p api.Point) bool { return max(p.X, -p.X, p.Y, -p.Y) > m }
	twice, near := 0, 0
	for range 2000 {
		a, b := d.offsets(d.from(1, 6), 2), d.offsets(d.from(1, 6), 2)
		corner := at(d.from(-1, 1)*(m-2), d.from(-1, 1)*(m-2))
		for i := range a {
			a[i] = at(a[i].X+corner.X, a[i].Y+corner.Y)
		}
		want := modelTimes(a, b)
		got, e := linear.Times(a, b)
		if !slices.ContainsFunc(want, tooFar) {
			near++
			has(t, "near", got, e, want)
			continue
		}
		refused(t, "too far", got, e, api.ErrFar)
		for _, p := range a {
			for _, q := range b {
				if sum := at(p.X+q.X, p.Y+q.Y); tooFar(sum) && !slices.Contains(want, sum) {
					twice++
				}
			}
		}
	}
	if twice < 100 || near < 100 {
		t.Errorf("%d sums were too far and taken out, %d lists near", twice, near)
	}
}
