package words_test

import (
	"slices"
	"testing"

	"vivarium/api"
	"vivarium/words"
)

// The rows of the chapter's section Examples, in their order.

func TestExamplesOfNew(t *testing.T) {
	is(t, "New(3)", told("000"))(words.New(3))
	if r, _ := words.New(3); !slices.Equal(r.Words, []uint64{0}) {
		t.Error("New(3)", r)
	}
	if r, e := words.New(0); r.N != 0 || len(r.Words) != 0 || e != api.OK {
		t.Error("New(0)", r, e)
	}
	if r, e := words.New(65538); r.N != 65538 || len(r.Words) != 1025 || e != api.OK {
		t.Error("New(65538)", r.N, len(r.Words), e)
	}
	refused(t, "New(65539)", api.ErrArg)(words.New(65539))
	refused(t, "New(-1)", api.ErrArg)(words.New(-1))
	if r, e := words.Of([]bool{true, false, true}); r.N != 3 || !slices.Equal(r.Words, []uint64{5}) || e != api.OK {
		t.Error("Of", r, e)
	}
}

func TestExamplesOfValid(t *testing.T) {
	rows := []api.Row{{N: 3, Words: []uint64{5}}, {N: 3, Words: []uint64{8}}, {N: 3, Words: []uint64{5, 0}}, {N: 64, Words: []uint64{0}}, {N: 65, Words: []uint64{0}}, {N: 0}, {N: -1}}
	for i, want := range []bool{true, false, false, true, false, true, false} {
		if words.Valid(rows[i]) != want {
			t.Errorf("Valid(%v) is not %v", rows[i], want)
		}
	}
}

func TestExamplesOfGetAndSet(t *testing.T) {
	for i, want := range map[int]bool{2: true, 1: false, 3: false, -1: false} {
		if words.Get(row("101"), i) != want {
			t.Errorf("Get(101, %d) is not %v", i, want)
		}
	}
	is(t, "Set(101, 1, true)", told("111"))(words.Set(row("101"), 1, true))
	is(t, "Set(101, 0, false)", told("001"))(words.Set(row("101"), 0, false))
	refused(t, "Set(101, 3, true)", api.ErrArg)(words.Set(row("101"), 3, true))
	refused(t, "Set({3, (8)}, 9, true)", api.ErrRow)(words.Set(api.Row{N: 3, Words: []uint64{8}}, 9, true))
}

func TestExamplesOfJoins(t *testing.T) {
	is(t, "Not(101)", told("010"))(words.Not(row("101")))
	is(t, "And(101, 011)", told("001"))(words.And(row("101"), row("011")))
	is(t, "Or(101, 010)", told("111"))(words.Or(row("101"), row("010")))
	is(t, "Xor(101, 011)", told("110"))(words.Xor(row("101"), row("011")))
	refused(t, "And(101, 01)", api.ErrUnlike)(words.And(row("101"), row("01")))
	refused(t, "And(101, {3, (8)})", api.ErrRow)(words.And(row("101"), api.Row{N: 3, Words: []uint64{8}}))
}

func TestExamplesOfMoves(t *testing.T) {
	up, down := words.Up, words.Down
	for _, c := range []struct {
		call func(api.Row, bool) (api.Row, bool, api.Errno)
		row  string
		in   bool
		want string
		out  bool
	}{
		{up, "101", true, "110", true}, {up, "110", false, "011", false},
		{down, "101", false, "010", true}, {down, "011", true, "111", false},
		{up, "", true, "", true}, {down, "", false, "", false},
	} {
		r, out, e := c.call(row(c.row), c.in)
		is(t, c.row, told(c.want))(r, e)
		if out != c.out {
			t.Errorf("%s, in %v: %v came out", c.row, c.in, out)
		}
	}
	is(t, "Turned(110)", told("011"))(words.Turned(row("110")))
	if n, e := words.Ones(row("1101")); n != 3 || e != api.OK {
		t.Error("Ones(1101)", n, e)
	}
	if l := slices.Collect(words.Bits(row("1101"))); !slices.Equal(l, []int{0, 1, 3}) {
		t.Error("Bits(1101)", l)
	}
}

func TestExamplesOfCounts(t *testing.T) {
	if sum, carry := words.Half(12, 10); sum != 6 || carry != 8 {
		t.Error("Half(12, 10)", sum, carry)
	}
	if sum, carry := words.Full(12, 10, 6); sum != 0 || carry != 14 {
		t.Error("Full(12, 10, 6)", sum, carry)
	}
	c, e := words.Count(row("110"), row("010"), row("011"))
	for i, want := range []string{"111", "010", "000", "000"} {
		is(t, "Count(110, 010, 011)", told(want))(c[i], e)
	}
	is(t, "Is of it with 3", told("010"))(words.Is(c, 3))
	is(t, "Is of it with 1", told("101"))(words.Is(c, 1))
	is(t, "Is of it with 0", told("000"))(words.Is(c, 0))
	refused(t, "Is(.., 16)", api.ErrArg)(words.Is(c, 16))
	none, e := words.Count()
	isCount(t, nil, none, e)
	many, e := words.Count(blanks(16, 3)...)
	noCount(t, "Count of 16 rows", api.ErrMany, many, e)
}
