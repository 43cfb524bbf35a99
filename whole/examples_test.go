package whole_test

import (
	"strings"
	"testing"

	"vivarium/api"
	"vivarium/whole"
)

// The rows of the chapter's section Examples, in their order.

func expect[T whole.Signed](t *testing.T, what string, want T, fits bool) func(T, bool) {
	return func(got T, ok bool) {
		t.Helper()
		if got != want || ok != fits {
			t.Errorf("%s: %d %v, not %d %v", what, got, ok, want, fits)
		}
	}
}

func TestExamplesOfParts(t *testing.T) {
	expect(t, "Mod(-7, 3)", 2, true)(whole.Mod(-7, 3))
	expect(t, "Div(-7, 3)", -3, true)(whole.Div(-7, 3))
	expect(t, "Mod(7, 0)", 0, false)(whole.Mod(7, 0))
	expect(t, "Div(7, -3)", 0, false)(whole.Div(7, -3))
	expect[int8](t, "Mod(-128, 127)", 126, true)(whole.Mod[int8](-128, 127))
	expect[int8](t, "Div(-128, 127)", -2, true)(whole.Div[int8](-128, 127))
}

func TestExamplesOfSums(t *testing.T) {
	expect[int8](t, "Add(100, 27)", 127, true)(whole.Add[int8](100, 27))
	expect[int8](t, "Add(100, 28)", 0, false)(whole.Add[int8](100, 28))
	expect[int8](t, "Add(-128, -1)", 0, false)(whole.Add[int8](-128, -1))
	expect[int8](t, "Mul(-128, -1)", 0, false)(whole.Mul[int8](-128, -1))
	expect[int8](t, "Mul(16, -8)", -128, true)(whole.Mul[int8](16, -8))
	expect[int8](t, "Mul(16, 8)", 0, false)(whole.Mul[int8](16, 8))
	expect[int8](t, "Mul(0, -128)", 0, true)(whole.Mul[int8](0, -128))
}

func TestExamplesOfGcd(t *testing.T) {
	expect(t, "Gcd(12, -18)", 6, true)(whole.Gcd(12, -18))
	expect(t, "Gcd(0, -5)", 5, true)(whole.Gcd(0, -5))
	expect(t, "Gcd(0, 0)", 0, true)(whole.Gcd(0, 0))
	expect[int8](t, "Gcd(-128, 0)", 0, false)(whole.Gcd[int8](-128, 0))
	expect[int8](t, "Gcd(-128, 96)", 32, true)(whole.Gcd[int8](-128, 96))
}

func TestExamplesOfNearAndFits(t *testing.T) {
	for _, c := range [][4]int{{5, 1, 3, 3}, {0, 1, 3, 1}, {2, 1, 3, 2}, {2, 3, 1, 3}} {
		if got := whole.Near(c[0], c[1], c[2]); got != c[3] {
			t.Errorf("Near(%d, %d, %d): %d, not %d", c[0], c[1], c[2], got, c[3])
		}
	}
	expect[int8](t, "Fits(127)", 127, true)(whole.Fits[int8](127))
	expect[int8](t, "Fits(128)", 0, false)(whole.Fits[int8](128))
}

func TestExamplesOfTexts(t *testing.T) {
	if a, b := whole.Text(0), whole.Text(-40); a != "0" || b != "-40" {
		t.Errorf("Text of 0 and -40: %q and %q", a, b)
	}
	for _, c := range []struct {
		text string
		n    int
		e    api.Errno
	}{
		{"007", 7, api.OK}, {"-0", 0, api.OK}, {"9223372036854775807", 9223372036854775807, api.OK}, {"-9223372036854775808", -9223372036854775808, api.OK},
		{"", 0, api.ErrNumber}, {"-", 0, api.ErrNumber}, {"+1", 0, api.ErrNumber}, {"1_0", 0, api.ErrNumber}, {" 1", 0, api.ErrNumber},
		{"9223372036854775808", 0, api.ErrRange}, {"1" + strings.Repeat("0", 40), 0, api.ErrRange},
	} {
		if n, e := whole.Parse(c.text); n != c.n || e != c.e {
			t.Errorf("Parse(%q): %d, error %d", c.text, n, int(e))
		}
	}
}
