package linear_test

import (
	"math"
	"testing"

	"vivarium/api"
	"vivarium/linear"
)

// P17.1

// along are so many offsets side by side.
func along(many int) []api.Point {
	var list []api.Point
	for i := range many {
		list = append(list, at(i, 0))
	}
	return list
}

type offsetsCase struct {
	offsets []api.Point
	e       api.Errno
}

// wrongOffsets are lists that may not be, each with its error: the first of its row that applies.
func wrongOffsets() []offsetsCase {
	far := api.MaxFar + 1
	return []offsetsCase{
		{along(65), api.ErrMany},
		{along(1000), api.ErrMany},
		{make([]api.Point, 65), api.ErrMany},
		{append(along(64), at(far, 0)), api.ErrMany},
		{append(along(64), at(0, 0)), api.ErrMany},
		{append(along(65), at(far, far), at(far, far)), api.ErrMany},
		{places(far, 0), api.ErrFar},
		{places(-far, 0), api.ErrFar},
		{places(0, far), api.ErrFar},
		{places(0, -far), api.ErrFar},
		{places(math.MinInt, 0), api.ErrFar},
		{places(0, math.MinInt), api.ErrFar},
		{places(math.MaxInt, math.MaxInt), api.ErrFar},
		{places(far, 0, far, 0), api.ErrFar},
		{places(0, 0, 0, 0, 0, far), api.ErrFar},
		{places(0, far, 0, 0, 0, 0), api.ErrFar},
		{append(along(63), at(0, -far)), api.ErrFar},
		{places(0, 0, 0, 0), api.ErrPoly},
		{places(1, 2, 3, 4, 2, 1, 1, 2), api.ErrPoly},
		{places(api.MaxFar, -api.MaxFar, 0, 0, api.MaxFar, -api.MaxFar), api.ErrPoly},
		{append(along(63), at(62, 0)), api.ErrPoly},
		{append(along(63), at(0, 0)), api.ErrPoly},
		{make([]api.Point, 64), api.ErrPoly},
	}
}

func TestCheckOfOffsetsThatMayBe(t *testing.T) {
	far := api.MaxFar
	lists := append(someOffsets(), []api.Point{}, along(64), along(63), places(far, far), places(-far, -far), places(far, -far, -far, far, far, 0, 0, far), places(1, 2, 2, 1), places(0, 1, 0, -1, 1, 0, -1, 0))
	for _, list := range lists {
		if e := linear.Check(list); e != api.OK {
			t.Errorf("%v: %d", short(list), e)
		}
	}
}

func TestCheckOfOffsetsThatMayNotBe(t *testing.T) {
	for _, c := range wrongOffsets() {
		if e := linear.Check(c.offsets); e != c.e {
			t.Errorf("%v (%d): %d, not %d", short(c.offsets), len(c.offsets), e, c.e)
		}
	}
}

// TestCheckOfTwoThatAreTheSame: wherever the two stand.
func TestCheckOfTwoThatAreTheSame(t *testing.T) {
	for i := range 64 {
		for j := range 64 {
			list := along(64)
			list[i] = list[j]
			want := api.ErrPoly
			if i == j {
				want = api.OK
			}
			if e := linear.Check(list); e != want {
				t.Errorf("%d as %d: %d", i, j, e)
			}
		}
	}
}
