package ring_test

import (
	"testing"

	"vivarium/api"
	"vivarium/field"
)

// What Bytes and Rows refuse: fields beside topologies, with the error that counts for each pair.

// refusal is a field, and what Bytes and Rows must answer of it and a topology.
type refusal struct {
	name        string
	f           *field.Field
	bytes, rows api.Errno
}

// wrongOnes are topologies that may not be, one for each of topo's errors and more; some have an endless side too, some the fields' sides.
func wrongOnes() []api.Topo {
	return []api.Topo{
		{},
		{W: 3, H: 2},
		{Kind: 6, W: 3, H: 2},
		{Kind: 255},
		{Kind: 255, W: 3, H: 2},
		{Kind: api.Plane, W: -1, H: 2},
		{Kind: api.Plane, W: 3, H: -2},
		{Kind: api.Plane, W: -1, H: 0},
		{Kind: api.Plane, W: api.MaxSide + 1, H: 2},
		{Kind: api.Torus, W: 3, H: api.MaxSide + 1},
		{Kind: api.Torus, W: -1 << 63, H: 1<<63 - 1},
		{Kind: api.Sphere, W: 3, H: 2},
		{Kind: api.Sphere},
		{Kind: api.Klein, W: 3, Turn: api.TurnWide},
		{Kind: api.Klein, H: 2, Turn: api.TurnHigh},
		{Kind: api.Cross, H: 2},
		{Kind: api.Klein, W: 3, H: 2},
		{Kind: api.Plane, W: 3, H: 2, Turn: api.TurnWide},
		{Kind: api.Plane, Turn: api.TurnWide},
		{Kind: api.Cross, W: 3, H: 2, Turn: api.TurnHigh},
		{Kind: api.Torus, W: 3, H: 2, Turn: 3, Shift: 1},
		{Kind: api.Torus, W: 3, H: 2, Shift: 1},
		{Kind: api.Torus, W: 3, H: 2, Turn: api.TurnWide},
		{Kind: api.Torus, W: 3, H: 2, Turn: api.TurnWide, Shift: 3},
		{Kind: api.Torus, W: 3, H: 2, Turn: api.TurnHigh, Shift: -2},
		{Kind: api.Torus, W: 3, Turn: api.TurnWide, Shift: 1},
		{Kind: api.Klein, W: 3, H: 2, Turn: api.TurnHigh, Shift: 2},
		{Kind: api.Klein, W: 3, H: 2, Turn: api.TurnWide, Shift: -1 << 63},
	}
}

// endlessOnes may be, and have an endless side; the other one is the fields' or not.
func endlessOnes() []api.Topo {
	var all []api.Topo
	for _, kind := range []uint8{api.Plane, api.Torus} {
		for _, n := range []int{0, 1, 2, 3, 64, api.MaxSide} {
			all = append(all, api.Topo{Kind: kind, W: n}, api.Topo{Kind: kind, H: n})
		}
	}
	return all
}

// unlikeOnes may be, have ends both ways, and not the sides 3 and 2: one side is another, or both, or they are exchanged, or make as many cells.
func unlikeOnes() []api.Topo {
	var all []api.Topo
	for _, s := range [][2]int{{3, 1}, {3, 3}, {2, 2}, {4, 2}, {2, 3}, {6, 1}, {1, 6}, {1, 1}, {3, api.MaxSide}, {api.MaxSide, 2}, {api.MaxSide, api.MaxSide}} {
		all = append(all, someOf(s[0], s[1])...)
	}
	return all
}

// eachRefusal goes through all pairs. Fields that there are have 3 columns and 2 rows.
func eachRefusal(t *testing.T, look func(api.Topo, refusal)) {
	t.Helper()
	two := made(t, 3, 2, 2, false, []uint8{1, 0, 1, 0, 1, 1})
	bits := made(t, 3, 2, 2, true, []uint8{1, 0, 1, 0, 1, 1})
	three := made(t, 3, 2, 3, false, []uint8{1, 0, 2, 0, 1, 2})
	low := made(t, 3, 2, 256, false, []uint8{1, 0, 1, 0, 1, 1}) // many states, though no cell has more than 1
	none := map[string]*field.Field{"nil": nil, "a zero field": {}, "a new field": new(field.Field)}
	some := map[string]*field.Field{"two states": two, "bits": bits}
	more := map[string]*field.Field{"three states": three, "256 states": low}

	beside := func(topologies []api.Topo, e, many api.Errno) {
		for _, a := range topologies {
			for name, f := range none {
				look(a, refusal{name, f, api.ErrNil, api.ErrNil})
			}
			for name, f := range some {
				look(a, refusal{name, f, e, e})
			}
			for name, f := range more {
				look(a, refusal{name, f, e, many})
			}
		}
	}
	beside(wrongOnes(), api.ErrTopo, api.ErrTopo)
	beside(endlessOnes(), api.ErrEndless, api.ErrEndless)
	beside(unlikeOnes(), api.ErrUnlike, api.ErrUnlike)
	beside(someOf(3, 2), api.OK, api.ErrPack)
}
