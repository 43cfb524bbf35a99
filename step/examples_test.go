package step_test

import (
	"testing"

	"vivarium/api"
	"vivarium/field"
	"vivarium/step"
)

// The rows of the chapter's section Examples, in their order.

// blinker is the chapter's B.
func blinker(t *testing.T) *field.Field {
	t.Helper()
	return drawn(t, false, "...", "ooo", "...")
}

func TestExamplesOfNext(t *testing.T) {
	for _, c := range []struct {
		name     string
		r        api.Rule
		t        api.Topo
		from, to []string
	}{
		{"L, Plane 3 3, B", conway(), api.Topo{Kind: api.Plane, W: 3, H: 3}, []string{"...", "ooo", "..."}, []string{".o.", ".o.", ".o."}},
		{"L, Torus 3 3, B", conway(), api.Topo{Kind: api.Torus, W: 3, H: 3}, []string{"...", "ooo", "..."}, []string{"ooo", "ooo", "ooo"}},
		{"B1/S, Torus 1 1", births(api.Moore, 1<<1, 0), api.Topo{Kind: api.Torus, W: 1, H: 1}, []string{"o"}, []string{"."}},
		{"B/S8, Torus 1 1", births(api.Moore, 0, 1<<8), api.Topo{Kind: api.Torus, W: 1, H: 1}, []string{"o"}, []string{"o"}},
		{"L, Sphere 2 2", conway(), api.Topo{Kind: api.Sphere, W: 2, H: 2}, []string{"o.", ".."}, []string{"o.", ".."}},
	} {
		for _, packed := range []bool{false, true} {
			g := mustNext(t, c.r, c.t, drawn(t, packed, c.from...))
			if !g.Same(drawn(t, packed, c.to...)) || g.Packed() != packed {
				t.Errorf("%s, packed %v: %v, not %v", c.name, packed, cellsOf(t, g), c.to)
			}
		}
	}
}

func TestExampleOfRun(t *testing.T) {
	b := blinker(t)
	if g := mustRun(t, conway(), api.Topo{Kind: api.Plane, W: 3, H: 3}, b, 2); !g.Same(b) {
		t.Error(cellsOf(t, g))
	}
}

func TestExamplesOfRefusals(t *testing.T) {
	plane := api.Topo{Kind: api.Plane, W: 3, H: 3}
	fades := fading(api.Moore, 1<<2, 1<<3|1<<4|1<<5, 4) // 345/2/4
	for _, c := range []struct {
		r    api.Rule
		t    api.Topo
		f    *field.Field
		n    int
		want api.Errno
	}{
		{conway(), plane, blinker(t), -1, api.ErrArg},
		{conway(), api.Topo{Kind: api.Plane, W: 3, H: 4}, blinker(t), 1, api.ErrUnlike},
		{fades, plane, blinker(t), 1, api.ErrState},
		{conway(), api.Topo{Kind: api.Plane, H: 3}, blinker(t), 1, api.ErrEndless},
		{conway(), plane, blinker(t), 1 << 26, api.ErrBudget},
		{conway(), plane, blinker(t), 1 << 51, api.ErrFar},
		{conway(), plane, nil, 1, api.ErrNil},
	} {
		if g, e := step.Run(c.r, c.t, c.f, c.n); g != nil || e != c.want {
			t.Errorf("Run(%v, %v, %d): %d, not %d", c.r, c.t, c.n, e, c.want)
		}
	}
}

func TestExamplesOfCell(t *testing.T) {
	f := mustFrame(t, api.Topo{Kind: api.Plane, W: 3, H: 3}, blinker(t))
	if state := mustCell(t, conway(), f, 1, 0); state != 1 {
		t.Error(state)
	}
	refusesCell(t, conway(), f, 3, 0, api.ErrPlace)
}
