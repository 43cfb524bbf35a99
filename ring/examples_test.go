package ring_test

import (
	"slices"
	"testing"

	"vivarium/api"
	"vivarium/field"
	"vivarium/ring"
	"vivarium/words"
)

// The rows of the chapter's section Examples, in their order.

// exampleField is the chapter's F: of 2 times 2 with the states 1 2, 3 4 (five states).
func exampleField(t *testing.T) *field.Field {
	t.Helper()
	return made(t, 2, 2, 5, false, []uint8{1, 2, 3, 4})
}

func square(kind uint8) api.Topo { return api.Topo{Kind: kind, W: 2, H: 2} }

func TestExamplesOfBytes(t *testing.T) {
	f := exampleField(t)
	for _, c := range []struct {
		t    api.Topo
		want []uint8
	}{
		{square(api.Plane), []uint8{0, 0, 0, 0, 0, 1, 2, 0, 0, 3, 4, 0, 0, 0, 0, 0}},
		{square(api.Torus), []uint8{4, 3, 4, 3, 2, 1, 2, 1, 4, 3, 4, 3, 2, 1, 2, 1}},
		{api.Topo{Kind: api.Torus, W: 2, H: 2, Turn: api.TurnWide, Shift: 1}, []uint8{3, 4, 3, 4, 2, 1, 2, 1, 4, 3, 4, 3, 1, 2, 1, 2}},
		{api.Topo{Kind: api.Klein, W: 2, H: 2, Turn: api.TurnWide}, []uint8{3, 4, 3, 4, 2, 1, 2, 1, 4, 3, 4, 3, 1, 2, 1, 2}},
		{square(api.Cross), []uint8{1, 4, 3, 2, 4, 1, 2, 3, 2, 3, 4, 1, 3, 2, 1, 4}},
		{square(api.Sphere), []uint8{1, 1, 3, 3, 1, 1, 2, 3, 2, 3, 4, 4, 2, 2, 4, 4}},
	} {
		isFrame(t, "example", c.t, mustBytes(t, c.t, f), c.want)
	}
}

func TestExampleOfRows(t *testing.T) {
	rows := mustRows(t, square(api.Torus), made(t, 2, 2, 2, false, []uint8{1, 0, 0, 0}))
	for y, line := range []string{"0000", "0101", "0000", "0101"} {
		if rows[y].N != 4 || !words.Valid(rows[y]) {
			t.Errorf("row %d: %v", y, rows[y])
		}
		for x, bit := range line {
			if words.Get(rows[y], x) != (bit == '1') {
				t.Errorf("row %d: bit %d is not %c", y, x, bit)
			}
		}
	}
}

func TestExamplesOfRefusals(t *testing.T) {
	f := exampleField(t)
	for _, c := range []struct {
		t    api.Topo
		f    *field.Field
		want api.Errno
	}{
		{api.Topo{Kind: api.Plane, W: 2, H: 3}, f, api.ErrUnlike},
		{api.Topo{Kind: api.Plane, H: 2}, f, api.ErrEndless},
		{api.Topo{Kind: api.Sphere, W: 2, H: 3}, f, api.ErrTopo},
		{square(api.Plane), nil, api.ErrNil},
	} {
		if frame, e := ring.Bytes(c.t, c.f); e != c.want || frame.W != 0 || frame.H != 0 || len(frame.Cells) > 0 {
			t.Errorf("Bytes(%v): %v, %d; not %d", c.t, frame, e, c.want)
		}
	}
	if rows, e := ring.Rows(square(api.Plane), f); e != api.ErrPack || len(rows) > 0 {
		t.Error(rows, e)
	}
}

func TestExamplesOfAround(t *testing.T) {
	frame := mustBytes(t, square(api.Torus), exampleField(t))
	if near := mustAround(t, frame, api.Moore, 0, 0); !slices.Equal(near, []uint8{3, 4, 2, 4, 3, 4, 2, 4}) {
		t.Error(near)
	}
	if near := mustAround(t, frame, api.Hex, 1, 0); !slices.Equal(near, []uint8{4, 1, 3, 4, 1, 3}) {
		t.Error(near)
	}
	refusesAround(t, frame, api.Moore, 2, 0, api.ErrPlace)
	refusesAround(t, frame, 4, 2, 0, api.ErrHood)
	refusesAround(t, api.Frame{W: 2, H: 2}, 4, 9, 9, api.ErrFrame)
}

func TestExamplesOfCheck(t *testing.T) {
	for _, c := range []struct {
		w, h, cells int
		want        api.Errno
	}{{1, 1, 9, api.OK}, {1, 1, 8, api.ErrFrame}, {0, 1, 6, api.ErrFrame}} {
		if e := ring.Check(api.Frame{W: c.w, H: c.h, Cells: make([]uint8, c.cells)}); e != c.want {
			t.Errorf("Check(%d, %d, %d cells): %d, not %d", c.w, c.h, c.cells, e, c.want)
		}
	}
}
