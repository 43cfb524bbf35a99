package topo_test

import (
	"fmt"
	"testing"

	"vivarium/api"
	"vivarium/topo"
)

// prints looks at a topology's text.
func prints(t *testing.T, a api.Topo, want string) {
	t.Helper()
	if s, e := topo.Print(a); s != want || e != api.OK {
		t.Errorf("Print(%v) = %q, %d, not %q", a, s, e, want)
	}
}

func TestPrintOfEndlessSides(t *testing.T) {
	for kind, letter := range map[uint8]string{api.Plane: "P", api.Torus: "T"} {
		prints(t, api.Topo{Kind: kind}, letter)
		prints(t, api.Topo{Kind: kind, W: 7}, letter+"7,0")
		prints(t, api.Topo{Kind: kind, H: 7}, letter+"0,7")
		prints(t, api.Topo{Kind: kind, W: 7, H: 7}, letter+"7,7")
	}
}

func TestPrintOfSides(t *testing.T) {
	for _, w := range []int{1, 2, 10, 999, 65535, 65536} {
		for _, h := range []int{1, 2, 10, 999, 65535, 65536} {
			prints(t, api.Topo{Kind: api.Plane, W: w, H: h}, fmt.Sprintf("P%d,%d", w, h))
			prints(t, api.Topo{Kind: api.Torus, W: w, H: h}, fmt.Sprintf("T%d,%d", w, h))
			prints(t, api.Topo{Kind: api.Cross, W: w, H: h}, fmt.Sprintf("C%d,%d", w, h))
		}
		prints(t, api.Topo{Kind: api.Sphere, W: w, H: w}, fmt.Sprintf("S%d", w))
	}
}

func TestPrintOfShifts(t *testing.T) {
	const w, h = 65536, 12
	for _, shift := range []int{-11, -10, -1, 1, 10, 11} {
		prints(t, api.Topo{Kind: api.Torus, W: w, H: h, Turn: api.TurnWide, Shift: shift}, fmt.Sprintf("T%d%+d,%d", w, shift, h))
		prints(t, api.Topo{Kind: api.Torus, W: w, H: h, Turn: api.TurnHigh, Shift: shift}, fmt.Sprintf("T%d,%d%+d", w, h, shift))
		prints(t, api.Topo{Kind: api.Klein, W: w, H: h, Turn: api.TurnWide, Shift: shift}, fmt.Sprintf("K%d*%+d,%d", w, shift, h))
		prints(t, api.Topo{Kind: api.Klein, W: w, H: h, Turn: api.TurnHigh, Shift: shift}, fmt.Sprintf("K%d,%d*%+d", w, h, shift))
	}
	prints(t, api.Topo{Kind: api.Klein, W: w, H: h, Turn: api.TurnWide}, "K65536*,12")
	prints(t, api.Topo{Kind: api.Klein, W: w, H: h, Turn: api.TurnHigh}, "K65536,12*")
	prints(t, api.Topo{Kind: api.Torus, W: w, H: h, Turn: api.TurnWide, Shift: -65535}, "T65536-65535,12")
}
