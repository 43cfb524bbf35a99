package topo

import (
	"vivarium/api"
	"vivarium/whole"
)

// The kinds' letters, from Plane on.
const (
	greatLetters = "PTKCS"
	smallLetters = "ptkcs"
)

// Print writes it.
func Print(t api.Topo) (string, api.Errno) {
	if e := Check(t); e != api.OK {
		return "", e
	}
	letter := string([]byte{greatLetters[t.Kind-api.Plane]})
	switch {
	case t.Kind == api.Sphere:
		return letter + whole.Text(t.W), api.OK
	case t.W == 0 && t.H == 0:
		return letter, api.OK
	}
	return letter + whole.Text(t.W) + turnText(t, width) + "," + whole.Text(t.H) + turnText(t, height), api.OK
}

// turnText is what stands behind a side's number.
func turnText(t api.Topo, side int) string {
	switch {
	case t.Turn != turnOf[side]:
		return ""
	case t.Kind == api.Klein && t.Shift == 0:
		return "*"
	case t.Kind == api.Klein:
		return "*" + signed(t.Shift)
	}
	return signed(t.Shift)
}

// signed is a number with its sign, be it above 0 too.
func signed(n int) string {
	if n < 0 {
		return whole.Text(n)
	}
	return "+" + whole.Text(n)
}
