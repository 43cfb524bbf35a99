package topo_test

import (
	"testing"

	"vivarium/api"
	"vivarium/topo"
)

// The rows of the chapter's section Examples, in their order.

func TestExamplesOfTextsThatAreRead(t *testing.T) {
	reads(t, "T30,20", api.Topo{Kind: api.Torus, W: 30, H: 20})
	reads(t, "t030", api.Topo{Kind: api.Torus, W: 30, H: 30})
	reads(t, "P", api.Topo{Kind: api.Plane})
	reads(t, "T30+5,20", api.Topo{Kind: api.Torus, W: 30, H: 20, Turn: api.TurnWide, Shift: 5})
	reads(t, "T30,20-5", api.Topo{Kind: api.Torus, W: 30, H: 20, Turn: api.TurnHigh, Shift: -5})
	reads(t, "T30+5", api.Topo{Kind: api.Torus, W: 30, H: 30, Turn: api.TurnWide, Shift: 5})
	reads(t, "K30*,20", api.Topo{Kind: api.Klein, W: 30, H: 20, Turn: api.TurnWide})
	reads(t, "K30,20*-3", api.Topo{Kind: api.Klein, W: 30, H: 20, Turn: api.TurnHigh, Shift: -3})
	reads(t, "K7*+0", api.Topo{Kind: api.Klein, W: 7, H: 7, Turn: api.TurnWide})
	reads(t, "C5,4", api.Topo{Kind: api.Cross, W: 5, H: 4})
	reads(t, "S9", api.Topo{Kind: api.Sphere, W: 9, H: 9})
}

func TestExamplesOfTextsThatAreRefused(t *testing.T) {
	refuses(t, "", api.ErrKind, 0)
	refuses(t, "X1", api.ErrKind, 0)
	refuses(t, "K", api.ErrSide, 1)
	refuses(t, "T,", api.ErrSide, 1)
	refuses(t, "T3,", api.ErrSide, 3)
	refuses(t, "S", api.ErrSide, 1)
	refuses(t, "T3+", api.ErrShift, 3)
	refuses(t, "T3,4 ", api.ErrMore, 4)
	refuses(t, "S9,9", api.ErrMore, 2)
	refuses(t, "S9*", api.ErrMore, 2)
	refuses(t, "T65537,0", api.ErrSide, 1)
	refuses(t, "C5,0", api.ErrEndless, 3)
	refuses(t, "K0*,x", api.ErrSide, 4)
	refuses(t, "T3*", api.ErrTwist, 2)
	refuses(t, "K3*,4*", api.ErrTwist, 5)
	refuses(t, "K3,4", api.ErrTwist, 4)
	refuses(t, "P3+1,4", api.ErrShift, 2)
	refuses(t, "K3*,4+1", api.ErrShift, 5)
	refuses(t, "T3+3,4", api.ErrShift, 2)
	refuses(t, "T3+0,4", api.ErrShift, 2)
	refuses(t, "T3+1,0", api.ErrShift, 2)
	refuses(t, "T3+1,4-1", api.ErrShift, 6)
}

func TestExamplesOfPrint(t *testing.T) {
	prints(t, api.Topo{Kind: api.Torus}, "T")
	prints(t, api.Topo{Kind: api.Torus, W: 30, H: 20, Turn: api.TurnHigh, Shift: -5}, "T30,20-5")
	prints(t, api.Topo{Kind: api.Klein, W: 7, H: 7, Turn: api.TurnWide}, "K7*,7")
	prints(t, api.Topo{Kind: api.Sphere, W: 9, H: 9}, "S9")
}

func TestExamplesOfCheck(t *testing.T) {
	checks(t, api.Topo{Kind: api.Sphere, W: 3, H: 4}, api.ErrSide)
	checks(t, api.Topo{Kind: api.Klein, W: 3}, api.ErrEndless)
	checks(t, api.Topo{Kind: api.Klein, W: 3, H: 4}, api.ErrTwist)
	checks(t, api.Topo{Kind: api.Torus, W: 3, H: 4, Turn: api.TurnWide, Shift: 3}, api.ErrShift)
	checks(t, api.Topo{Kind: api.Torus, W: 3, Turn: api.TurnWide, Shift: 1}, api.ErrShift)
}

func TestExamplesOfCanon(t *testing.T) {
	if b, e := topo.Canon(api.Topo{Kind: api.Torus, W: 30, H: 20, Turn: api.TurnHigh, Shift: -5}); b != (api.Topo{Kind: api.Torus, W: 30, H: 20, Turn: api.TurnHigh, Shift: 15}) || e != api.OK {
		t.Error("Canon", b, e)
	}
	if b, e := topo.Canon(api.Topo{Kind: api.Klein, W: 3, H: 4, Turn: api.TurnWide, Shift: -1}); b != (api.Topo{Kind: api.Klein, W: 3, H: 4, Turn: api.TurnWide, Shift: 2}) || e != api.OK {
		t.Error("Canon", b, e)
	}
}

func TestExamplesOfHome(t *testing.T) {
	for _, kind := range []uint8{api.Plane, api.Torus, api.Cross} {
		if r, e := topo.Home(api.Topo{Kind: kind, W: 5, H: 4}); r != (api.Rect{X: -2, Y: -2, W: 5, H: 4}) || e != api.OK {
			t.Error("Home of 5 times 4", kind, r, e)
		}
	}
	for _, kind := range []uint8{api.Plane, api.Torus} {
		if r, e := topo.Home(api.Topo{Kind: kind, H: 4}); r != (api.Rect{X: 0, Y: -2, W: 0, H: 4}) || e != api.OK {
			t.Error("Home of 0 times 4", kind, r, e)
		}
	}
}

func TestExamplesOfHas(t *testing.T) {
	small, strip := api.Topo{Kind: api.Torus, W: 5, H: 4}, api.Topo{Kind: api.Plane, H: 4}
	for _, c := range []struct {
		a    api.Topo
		p    api.Point
		want bool
		e    api.Errno
	}{
		{small, api.Point{X: 2, Y: 1}, true, api.OK},
		{small, api.Point{X: 3, Y: 1}, false, api.OK},
		{strip, api.Point{X: 1 << 40, Y: -2}, true, api.OK},
		{strip, api.Point{X: 1<<40 + 1, Y: 0}, false, api.ErrFar},
	} {
		if is, e := topo.Has(c.a, c.p); is != c.want || e != c.e {
			t.Errorf("Has(%v, %v) = %v, %d", c.a, c.p, is, e)
		}
	}
}

func TestExampleOfAcross(t *testing.T) {
	if b, e := topo.Across(api.Topo{Kind: api.Torus, W: 30, H: 20, Turn: api.TurnWide, Shift: 5}); b != (api.Topo{Kind: api.Torus, W: 20, H: 30, Turn: api.TurnHigh, Shift: 5}) || e != api.OK {
		t.Error("Across", b, e)
	}
}
