package window_test

import (
	"slices"
	"testing"

	"vivarium/api"
	"vivarium/window"
)

// The rows of the chapter's section Examples, in their order.

// s is the chapter's S.
func s() api.Topo { return api.Topo{Kind: api.Torus, W: 4} }

func TestExamplesOfCheck(t *testing.T) {
	for _, c := range []struct {
		r    api.Rule
		t    api.Topo
		want api.Errno
	}{
		{conway(), s(), api.OK},
		{conway(), api.Topo{Kind: api.Torus, H: 4}, api.ErrLying},
		{conway(), api.Topo{Kind: api.Plane}, api.ErrUnbounded},
		{conway(), api.Topo{Kind: api.Torus, W: 4, H: 4}, api.ErrFinite},
		{births(api.Moore, 1, 0), s(), api.ErrLoud},
	} {
		if e := window.Check(c.r, c.t); e != c.want {
			t.Errorf("Check(%v, %v): %d, not %d", c.r, c.t, e, c.want)
		}
	}
}

func TestExamplesOfTrim(t *testing.T) {
	hasBand(t, "Trim", conway(), s(), mustTrim(t, conway(), s(), band(4, 5, "0000", "0110", "0000")), band(4, 6, "0110"))
	hasBand(t, "Trim", conway(), s(), mustTrim(t, conway(), s(), band(4, 5, "0000")), band(4, 0))
	refusesTrim(t, conway(), s(), band(3, 0), api.ErrBand)
	refusesTrim(t, conway(), s(), band(4, 0, "011"), api.ErrBand)
	refusesTrim(t, conway(), s(), band(4, 1<<40, "0111", "0111"), api.ErrFar)
}

func TestExamplesOfLine(t *testing.T) {
	plane := api.Topo{Kind: api.Plane, W: 4}
	for _, c := range []struct {
		t    api.Topo
		rows [4]string
	}{
		{s(), [4]string{"0000", "1110", "0000", "0100"}},
		{plane, [4]string{"0000", "1110", "0000", "0100"}},
		{s(), [4]string{"1110", "0000", "0000", "0100"}},
		{s(), [4]string{"1101", "0000", "0000", "1000"}},
		{plane, [4]string{"1101", "0000", "0000", "0000"}},
	} {
		l := drawn(c.rows[:]...)
		if got := mustLine(t, conway(), c.t, l[0], l[1], l[2]); !slices.Equal(got, l[3]) {
			t.Errorf("%v: %v", c, got)
		}
	}
}

func TestExamplesOfRun(t *testing.T) {
	hasBand(t, "Run", conway(), s(), mustRun(t, conway(), s(), band(4, 0, "1110"), 1), band(4, -1, "0100", "0100", "0100"))
	hasBand(t, "Run", conway(), s(), mustRun(t, conway(), s(), band(4, 0, "1111"), 1), band(4, -1, "1111", "1111", "1111"))
	refusesRun(t, conway(), s(), band(4, 0, "1110"), -1, api.ErrArg)
	refusesRun(t, conway(), s(), band(4, 0, "1110"), 1<<50+1, api.ErrFar)
	refusesRun(t, conway(), s(), band(4, 0, "1110"), 1<<17, api.ErrBudget)
	refusesRun(t, conway(), s(), band(4, 1<<40, "1110"), 1, api.ErrFar)
}
