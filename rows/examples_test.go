package rows_test

import (
	"slices"
	"testing"

	"vivarium/api"
	"vivarium/rows"
)

// The rows of the chapter's section Examples, in their order.

// s is the chapter's S.
func s() api.Topo { return api.Topo{Kind: api.Torus, W: 4} }

func TestExamplesOfNew(t *testing.T) {
	for _, c := range []struct {
		r    api.Rule
		t    api.Topo
		most int
		want api.Errno
	}{
		{conway(), s(), 0, api.ErrArg},
		{conway(), s(), 65537, api.ErrArg},
		{conway(), api.Topo{Kind: api.Torus, W: 4, H: 4}, 0, api.ErrFinite},
		{births(api.Moore, 1, 0), s(), 1, api.ErrLoud},
	} {
		if b, e := rows.New(c.r, c.t, c.most); e != c.want || b != nil {
			t.Errorf("New(%v, %v, %d): %d, not %d", c.r, c.t, c.most, e, c.want)
		}
	}
}

func TestExamplesOfABook(t *testing.T) {
	b := mustNew(t, conway(), s(), 3)
	row := func(line string, want int, code api.Errno) {
		t.Helper()
		if id, e := b.Row(drawn(line)[0]); id != want || e != code {
			t.Errorf("Row(%s): %d, %d", line, id, e)
		}
	}
	cells := func(id int, want string, code api.Errno) {
		t.Helper()
		if got, e := b.Cells(id); !slices.Equal(got, drawn(want)[0]) || e != code {
			t.Errorf("Cells(%d): %v, %d", id, got, e)
		}
	}
	next := func(above, here, below, want int, code api.Errno) {
		t.Helper()
		if id, e := b.Next(above, here, below); id != want || e != code {
			t.Errorf("Next(%d, %d, %d): %d, %d", above, here, below, id, e)
		}
	}
	count := func(want int) {
		t.Helper()
		if n := b.Count(); n != want {
			t.Errorf("Count: %d, not %d", n, want)
		}
	}
	count(1)
	row("0000", 0, api.OK)
	row("1110", 1, api.OK)
	row("1110", 1, api.OK)
	count(2)
	row("011", 0, api.ErrBand)
	row("0120", 0, api.ErrState)
	cells(1, "1110", api.OK)
	cells(2, "", api.ErrNoRow)
	cells(-1, "", api.ErrNoRow)
	next(0, 1, 0, 2, api.OK)
	cells(2, "0100", api.OK)
	next(0, 0, 1, 2, api.OK)
	next(0, 0, 0, 0, api.OK)
	count(3)
	row("1111", 0, api.ErrBudget)
	next(1, 1, 0, 0, api.ErrBudget)
	next(0, 3, 0, 0, api.ErrNoRow)
	next(1, 1, 1, 0, api.OK)
	count(3)
}

// TestExampleOfTheRowThatHasNoRoom: what Next(1, 1, 0) comes to, in a book that has room.
func TestExampleOfTheRowThatHasNoRoom(t *testing.T) {
	b := mustNew(t, conway(), s(), 4)
	b.Row(drawn("1110")[0])
	id, e := b.Next(1, 1, 0)
	if cells, f := b.Cells(id); e != api.OK || f != api.OK || !slices.Equal(cells, drawn("1010")[0]) {
		t.Errorf("%v, %d, %d", cells, e, f)
	}
}

func TestExamplesOfNone(t *testing.T) {
	var b *rows.Book
	_, e := b.Row(drawn("0000")[0])
	_, f := b.Cells(0)
	_, g := b.Next(0, 0, 0)
	if e != api.ErrNil || f != api.ErrNil || g != api.ErrNil || b.Count() != 0 {
		t.Error(e, f, g, b.Count())
	}
}
