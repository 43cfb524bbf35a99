package packed_test

import (
	"testing"

	"vivarium/api"
	"vivarium/field"
	"vivarium/packed"
)

// The rows of the chapter's section Examples, in their order.

// told is a row as a text of 0 and 1, bit 0 first.
func told(r api.Row) string {
	text := ""
	for _, on := range bitsOf(r) {
		if on {
			text += "1"
		} else {
			text += "0"
		}
	}
	return text
}

func TestExamplesOfLine(t *testing.T) {
	loud := api.Life{Hood: api.Moore, Born: 1, Stay: 1 << 8} // B0/S8
	for _, c := range []struct {
		l                  api.Life
		above, here, below string
		want               string
	}{
		{conway(), "00000", "01110", "00000", "010"},
		{conway(), "01110", "00000", "00000", "010"},
		{conway(), "11111", "10101", "11111", "000"},
		{loud, "000", "000", "000", "1"},
		{loud, "111", "111", "111", "1"},
		{api.Life{Hood: api.Neumann, Born: 1 << 1}, "100", "000", "000", "0"},
		{api.Life{Hood: api.Hex, Born: 1 << 1}, "100", "000", "000", "1"},
		{api.Life{Hood: api.Hex, Born: 1 << 1}, "001", "000", "000", "0"},
	} {
		if got := told(mustLine(t, c.l, row(c.above), row(c.here), row(c.below))); got != c.want {
			t.Errorf("Line(%v, %s, %s, %s): %s, not %s", c.l, c.above, c.here, c.below, got, c.want)
		}
	}
}

func TestExamplesOfLineRefused(t *testing.T) {
	refusesLine(t, conway(), [3]api.Row{row("00"), row("00"), row("00")}, api.ErrRow)
	refusesLine(t, conway(), [3]api.Row{row("000"), row("0000"), row("000")}, api.ErrUnlike)
	refusesLine(t, api.Life{}, [3]api.Row{row("00"), row("00"), row("00")}, api.ErrRule)
}

func TestExamplesOfNext(t *testing.T) {
	for _, bits := range []bool{false, true} {
		f := drawn(t, bits, "...", "ooo", "...")
		for kind, want := range map[uint8]*field.Field{api.Plane: drawn(t, true, ".o.", ".o.", ".o."), api.Torus: drawn(t, true, "ooo", "ooo", "ooo")} {
			if g, e := packed.Next(conway(), api.Topo{Kind: kind, W: 3, H: 3}, f); e != api.OK || !g.Same(want) || !g.Packed() {
				t.Errorf("kind %d: %d, %v", kind, e, g)
			}
		}
	}
}

func TestExamplesOfRunRefused(t *testing.T) {
	plane := api.Topo{Kind: api.Plane, W: 3, H: 3}
	f := drawn(t, false, "...", "ooo", "...")
	for _, c := range []struct {
		t    api.Topo
		f    *field.Field
		n    int
		want api.Errno
	}{
		{plane, f, -1, api.ErrArg},
		{api.Topo{Kind: api.Plane, W: 3, H: 4}, f, 1, api.ErrUnlike},
		{api.Topo{Kind: api.Plane, H: 3}, f, 1, api.ErrEndless},
		{plane, made(t, 3, 3, 3, false, make([]uint8, 9)), 1, api.ErrPack},
		{plane, f, 1 << 26, api.ErrBudget},
	} {
		if g, e := packed.Run(conway(), c.t, c.f, c.n); g != nil || e != c.want {
			t.Errorf("Run(%v, %d): %d, not %d", c.t, c.n, e, c.want)
		}
	}
}
