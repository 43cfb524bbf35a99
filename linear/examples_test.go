package linear_test

import (
	"fmt"
	"testing"

	"vivarium/api"
	"vivarium/linear"
)

// The rows of the chapter's section Examples, in their order. R and T are the chapter's.

func exampleR() []api.Point { return places(0, 0, 1, 0) }

func exampleT() api.Topo { return api.Topo{Kind: api.Torus, W: 5, H: 1} }

func TestExamplesOfCheck(t *testing.T) {
	for _, c := range []struct {
		offsets []api.Point
		e       api.Errno
	}{
		{exampleR(), api.OK},
		{append(exampleR(), at(0, 0)), api.ErrPoly},
		{along(65), api.ErrMany},
		{places(1<<40+1, 0, 1<<40+1, 0), api.ErrFar},
	} {
		if e := linear.Check(c.offsets); e != c.e {
			t.Errorf("Check(%v): %d, not %d", short(c.offsets), e, c.e)
		}
	}
}

func TestExamplesOfTimes(t *testing.T) {
	list, e := linear.Times(exampleR(), exampleR())
	has(t, "R, R", list, e, places(0, 0, 2, 0))
	list, e = linear.Times(exampleR(), nil)
	has(t, "R, none", list, e, nil)
	list, e = linear.Times(nil, nil)
	has(t, "none, none", list, e, nil)
	list, e = linear.Times(exampleR(), places(0, 0, 0, 1))
	has(t, "R, (0, 0), (0, 1)", list, e, places(0, 0, 1, 0, 0, 1, 1, 1))
	list, e = linear.Times(places(1<<40, 0), places(1, 0))
	refused(t, "(2^40, 0), (1, 0)", list, e, api.ErrFar)
}

func TestExamplesOfNextAndJump(t *testing.T) {
	list, e := linear.Next(exampleT(), exampleR(), places(0, 0))
	has(t, "Next", list, e, places(-1, 0, 0, 0))
	for n, want := range map[int][]api.Point{2: places(-2, 0, 0, 0), 0: places(0, 0), 4: places(0, 0, 1, 0)} {
		list, e := linear.Jump(exampleT(), exampleR(), places(0, 0), n)
		has(t, fmt.Sprint("Jump by ", n), list, e, want)
	}
}

func TestExampleOfPower(t *testing.T) {
	list, e := linear.Power(exampleT(), exampleR(), 3)
	has(t, "Power", list, e, places(-2, 0, -1, 0, 0, 0, 2, 0))
}

func TestExampleOfOneCell(t *testing.T) {
	list, e := linear.Next(api.Topo{Kind: api.Torus, W: 1, H: 1}, exampleR(), places(0, 0))
	has(t, "1 times 1", list, e, nil)
}

func TestExamplesOfNextRefused(t *testing.T) {
	for _, c := range []struct {
		t     api.Topo
		cells []api.Point
		e     api.Errno
	}{
		{exampleT(), places(3, 0), api.ErrPlace},
		{exampleT(), places(0, 0, 0, 0), api.ErrMany},
		{api.Topo{Kind: api.Plane, W: 5, H: 1}, places(0, 0), api.ErrKind},
		{api.Topo{Kind: api.Torus, W: 5}, places(0, 0), api.ErrEndless},
	} {
		list, e := linear.Next(c.t, exampleR(), c.cells)
		refused(t, fmt.Sprint(c.t, c.cells), list, e, c.e)
	}
}

func TestExamplesOfJumpRefused(t *testing.T) {
	list, e := linear.Jump(exampleT(), exampleR(), places(0, 0), -1)
	refused(t, "by -1", list, e, api.ErrArg)
	list, e = linear.Jump(exampleT(), exampleR(), places(0, 0), 1<<50+1)
	refused(t, "by 2^50 + 1", list, e, api.ErrFar)
}

func TestExamplesOfLine(t *testing.T) {
	for _, c := range []struct {
		offsets []int
		n, at   int
		is      bool
		e       api.Errno
	}{
		{[]int{0, 1}, 3, -2, true, api.OK},
		{[]int{0, 1}, 4, -2, false, api.OK},
		{[]int{0, 1}, 4, -4, true, api.OK},
		{[]int{0, 1}, 1 << 50, -1 << 50, true, api.OK},
		{[]int{0, 1}, 5, 1, false, api.OK},
		{[]int{65}, 1, 0, false, api.ErrFar},
		{[]int{1, 1}, 1, 0, false, api.ErrPoly},
		{nil, 0, 0, true, api.OK},
		{nil, 1, 0, false, api.OK},
	} {
		if is, e := linear.Line(c.offsets, c.n, c.at); is != c.is || e != c.e {
			t.Errorf("Line(%v, %d, %d): %v, %d", c.offsets, c.n, c.at, is, e)
		}
	}
}
