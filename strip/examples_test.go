package strip_test

import (
	"slices"
	"testing"

	"vivarium/api"
	"vivarium/strip"
)

// The rows of the chapter's section Examples, in their order.

// tube is the chapter's T.
func tube() api.Topo { return api.Topo{Kind: api.Torus, W: 6} }

func TestExamplesOfNew(t *testing.T) {
	for _, c := range []struct {
		t     api.Topo
		nodes int
		want  api.Errno
	}{{tube(), 0, api.ErrArg}, {tube(), 1<<20 + 1, api.ErrArg}, {api.Topo{Kind: api.Torus, H: 6}, 5, api.ErrLying}} {
		if s, e := strip.New(conway(), c.t, c.nodes); s != nil || e != c.want {
			t.Errorf("New(L, %v, %d): %d, not %d", c.t, c.nodes, e, c.want)
		}
	}
}

func TestExamplesOfASea(t *testing.T) {
	s := mustNew(t, conway(), tube(), 1000)
	is := func(what string, id int, e api.Errno) func(want int, code api.Errno) {
		return func(want int, code api.Errno) {
			t.Helper()
			if id != want || e != code {
				t.Errorf("%s: %d, %d, not %d, %d", what, id, e, want, code)
			}
		}
	}
	row := func(line string) func(int, api.Errno) {
		id, e := s.Row(drawn(line)[0])
		return is("Row("+line+")", id, e)
	}
	pair := func(a, b int) func(int, api.Errno) {
		id, e := s.Pair(a, b)
		return is("Pair", id, e)
	}
	middle := func(a, j int) func(int, api.Errno) {
		id, e := s.Middle(a, j)
		return is("Middle", id, e)
	}
	rows := func(id int, lines ...string) {
		t.Helper()
		if got, e := s.Rows(id); e != api.OK || !slices.EqualFunc(got, drawn(lines...), slices.Equal) {
			t.Errorf("Rows(%d): %v, %d", id, got, e)
		}
	}
	nodes := func(want int) {
		t.Helper()
		if n := s.Nodes(); n != want {
			t.Errorf("Nodes: %d, not %d", n, want)
		}
	}
	row("000000")(0, api.OK)
	row("011100")(1, api.OK)
	row("000000")(0, api.OK)
	row("01110")(0, api.ErrBand)
	pair(0, 1)(2, api.OK)
	pair(0, 0)(3, api.OK)
	pair(2, 3)(4, api.OK)
	pair(0, 2)(0, api.ErrUnlike)
	pair(0, 9)(0, api.ErrNode)
	if level, e := s.Level(4); level != 2 || e != api.OK {
		t.Errorf("Level(4): %d, %d", level, e)
	}
	rows(4, "000000", "011100", "000000", "000000")
	nodes(5)
	middle(4, 0)(5, api.OK)
	rows(5, "001000", "001000")
	nodes(7)
	middle(4, 1)(0, api.ErrArg)
	middle(2, 0)(0, api.ErrArg)
	middle(4, -1)(0, api.ErrArg)
	run := func(b api.Band, n int, want api.Band, code api.Errno) {
		t.Helper()
		if got, e := s.Run(b, n); e != code || !same(got, want) {
			t.Errorf("Run(%v, %d): %v, %d", b, n, got, e)
		}
	}
	blinker := band(6, 0, "011100")
	run(blinker, 1, band(6, -1, "001000", "001000", "001000"), api.OK)
	nodes(7)
	run(blinker, 1<<39, blinker, api.OK)
	run(blinker, 1<<40+1, api.Band{}, api.ErrFar)
	run(api.Band{W: 6}, 1<<50, api.Band{W: 6}, api.OK)
	nodes(7)
	row("001000")(6, api.OK) // the part that Middle made known
	nodes(7)
}
