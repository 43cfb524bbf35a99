package plain_test

import (
	"testing"

	"vivarium/api"
	"vivarium/plain"
)

// The rows of the chapter's section Examples, in their order.

func TestExamplesOfSign(t *testing.T) {
	for state, want := range map[uint8]rune{0: 46, 1: 79, 2: 10242, 255: 10495} {
		if got := plain.Sign(state); got != want {
			t.Errorf("Sign(%d) = %d, not %d", state, got, want)
		}
	}
}

func TestExamplesOfOf(t *testing.T) {
	for _, c := range []struct {
		sign  rune
		state uint8
		is    bool
	}{{'_', 0, true}, {'#', 1, true}, {10495, 255, true}, {10241, 0, false}, {10496, 0, false}, {'0', 0, false}, {-1, 0, false}} {
		if state, is := plain.Of(c.sign); state != c.state || is != c.is {
			t.Errorf("Of(%d) = %d, %v, not %d, %v", c.sign, state, is, c.state, c.is)
		}
	}
}

func TestExamplesOfRead(t *testing.T) {
	reads(t, "!a\n.O.\n..*", cell(1, 0, 1), cell(2, 1, 1))
	reads(t, "!a\n.O.\n..*\n", cell(1, 0, 1), cell(2, 1, 1))
	reads(t, "O\n\n o", cell(0, 0, 1), cell(1, 2, 1))
	reads(t, ".\u2802", cell(1, 0, 2))
	refuses(t, ".x", api.ErrRune, 1)
	refuses(t, "!x\n.\u2802x", api.ErrRune, 7)
	refuses(t, "\xff", api.ErrRune, 0)
}

func TestExamplesOfWrite(t *testing.T) {
	writes(t, []api.Cell{cell(1, 0, 1), cell(0, 1, 2), cell(9, 9, 3)}, rect(0, 0, 2, 2), ".O\n\u2802.\n")
	writes(t, nil, rect(0, 0, 0, 2), "\n\n")
	writes(t, nil, rect(0, 0, 2, 0), "")
	noPicture(t, nil, rect(0, 0, -1, 1), api.ErrPicture)
	noPicture(t, nil, rect(1<<40+1, 0, 1, 1), api.ErrFar)
	noPicture(t, nil, rect(0, 0, 65536, 16), api.ErrText)
	noPicture(t, []api.Cell{cell(0, 0, 1), cell(0, 0, 1)}, rect(0, 0, 2, 2), api.ErrMany)
}

func TestExamplesOfHalves(t *testing.T) {
	halves(t, []api.Cell{cell(0, 0, 1), cell(1, 1, 7), cell(2, 0, 1), cell(2, 1, 1)}, rect(0, 0, 4, 2), string([]rune{9600, 9604, 9608, 32, 10}))
	halves(t, []api.Cell{cell(0, 2, 1), cell(0, 3, 1)}, rect(0, 0, 1, 3), string([]rune{32, 10, 9600, 10}))
}
