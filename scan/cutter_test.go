package scan_test

import (
	"math"
	"math/big"
	"strings"
	"testing"

	"vivarium/api"
	"vivarium/scan"
)

// stands looks where a cutter stands, and what it sees there.
func stands(t *testing.T, what string, c *scan.Cutter, text string, at int) {
	t.Helper()
	var next byte
	if at < len(text) {
		next = text[at]
	}
	b, is := c.Peek()
	if c.At() != at || c.Done() != (at == len(text)) || b != next || is != (at < len(text)) {
		t.Errorf("%s: at %d, not %d, done %v, sees %d, %v", what, c.At(), at, c.Done(), b, is)
	}
}

func TestCutterBeginsAtTheBeginning(t *testing.T) {
	for _, text := range []string{"", "a", "\x00", "é\n"} {
		stands(t, "New", scan.New(text), text, 0)
	}
}

func TestTakeGoesOverItsByteAlone(t *testing.T) {
	text := "a\x00\xff\na"
	c := scan.New(text)
	for i := range len(text) {
		for b := range 256 {
			if byte(b) != text[i] && c.Take(byte(b)) {
				t.Fatalf("took %d at %d", b, i)
			}
		}
		stands(t, "nothing taken", c, text, i)
		if !c.Take(text[i]) {
			t.Fatalf("did not take the byte at %d", i)
		}
		stands(t, "taken", c, text, i+1)
	}
	for b := range 256 {
		if c.Take(byte(b)) {
			t.Fatalf("took %d at the end", b)
		}
	}
	stands(t, "the end", c, text, len(text))
}

func TestPeekStaysWhereItIs(t *testing.T) {
	c := scan.New("ab")
	for range 3 {
		stands(t, "Peek", c, "ab", 0)
	}
}

func TestBlanksGoesOverAllBlanks(t *testing.T) {
	every(" \ta\n", 4, func(text string) {
		want := 0
		for want < len(text) && (text[want] == 32 || text[want] == 9) {
			want++
		}
		c := scan.New(text)
		if got := c.Blanks(); got != want {
			t.Errorf("Blanks of %q = %d", text, got)
		}
		stands(t, "Blanks", c, text, want)
		if got := c.Blanks(); got != 0 {
			t.Errorf("Blanks of %q twice: %d", text, got)
		}
	})
	for b := range 256 {
		text := string([]byte{byte(b)})
		want := 0
		if b == 32 || b == 9 {
			want = 1
		}
		if got := scan.New(text).Blanks(); got != want {
			t.Errorf("Blanks of the byte %d: %d", b, got)
		}
	}
}

func TestCuttersGoByThemselves(t *testing.T) {
	one, two := scan.New("ab"), scan.New("ab")
	one.Take('a')
	stands(t, "the other", two, "ab", 0)
	stands(t, "the one", one, "ab", 1)
}

// number looks at Number in the midst of a text.
func number(t *testing.T, digits, behind string, want int, e api.Errno) {
	t.Helper()
	text := "#" + digits + behind
	c := scan.New(text)
	c.Take('#')
	n, got := c.Number()
	at := 1
	if e == api.OK {
		at += len(digits)
	}
	if len(digits) > 50 {
		digits = digits[:50] + ".."
	}
	if n != want || got != e {
		t.Errorf("Number of %q = %d, %d, not %d, %d", digits, n, got, want, e)
	}
	stands(t, "Number of "+digits, c, text, at)
}

func TestNumber(t *testing.T) {
	for _, behind := range []string{"", " ", "x", "-", ".5", "_", "/", ":", "\n"} {
		number(t, "0", behind, 0, api.OK)
		number(t, "7", behind, 7, api.OK)
		number(t, "1234567890", behind, 1234567890, api.OK)
		number(t, "000", behind, 0, api.OK)
		number(t, "0042", behind, 42, api.OK)
		number(t, "9223372036854775807", behind, math.MaxInt, api.OK)
		number(t, "0009223372036854775807", behind, math.MaxInt, api.OK)
		number(t, "9223372036854775808", behind, 0, api.ErrRange)
		number(t, "0009223372036854775808", behind, 0, api.ErrRange)
		number(t, "18446744073709551616", behind, 0, api.ErrRange)
		number(t, "18446744073709551617", behind, 0, api.ErrRange)
		number(t, "99999999999999999999999999", behind, 0, api.ErrRange)
		number(t, "", behind, 0, api.ErrNumber)
	}
}

func TestNumberAroundTheEdge(t *testing.T) {
	edge := new(big.Int).SetUint64(1 << 63)
	for d := int64(-300); d <= 300; d++ {
		n := new(big.Int).Add(edge, big.NewInt(d))
		if n.IsInt64() {
			number(t, n.String(), "", int(n.Int64()), api.OK)
		} else {
			number(t, n.String(), "", 0, api.ErrRange)
		}
	}
}

func TestNumberKnowsDigitsAlone(t *testing.T) {
	for b := range 256 {
		text := string([]byte{byte(b)})
		c := scan.New(text)
		n, e := c.Number()
		if b >= '0' && b <= '9' {
			if n != b-'0' || e != api.OK || !c.Done() {
				t.Errorf("Number of %q = %d, %d", text, n, e)
			}
			continue
		}
		if n != 0 || e != api.ErrNumber || c.At() != 0 {
			t.Errorf("Number of %q = %d, %d at %d", text, n, e, c.At())
		}
	}
	for _, text := range []string{"-1", "+1", " 1", "\t1", "_1", "٣"} {
		if n, e := scan.New(text).Number(); n != 0 || e != api.ErrNumber {
			t.Errorf("Number of %q = %d, %d", text, n, e)
		}
	}
}

func TestNumberOfAnyLength(t *testing.T) {
	for _, n := range []int{api.MaxText - 1, api.MaxText, api.MaxText + 1, 3 * api.MaxText} {
		noughts := strings.Repeat("0", n)
		number(t, noughts, "", 0, api.OK)
		number(t, noughts+"12", "x", 12, api.OK)
		number(t, strings.Repeat("1", n), "", 0, api.ErrRange)
		number(t, noughts+strings.Repeat("9", n), "x", 0, api.ErrRange)
	}
}

// name looks at Name in the midst of a text.
func name(t *testing.T, piece, behind string, e api.Errno) {
	t.Helper()
	text := "#" + piece + behind
	c := scan.New(text)
	c.Take('#')
	want, at := piece, 1+len(piece)
	if e != api.OK {
		want, at = "", 1
	}
	if got, f := c.Name(); got != want || f != e {
		t.Errorf("Name of %q and %q = %q, %d, not %d", piece, behind, got, f, e)
	}
	stands(t, "Name", c, text, at)
}

func TestName(t *testing.T) {
	long := strings.Repeat("aZ-_9", 8)
	for _, behind := range []string{"", " ", ".", "!", "@", "[", "`", "{", "/", ":", "é", "\n", "\x00"} {
		name(t, "a", behind, api.OK)
		name(t, "Z", behind, api.OK)
		name(t, "ab-3", behind, api.OK)
		name(t, "a--__", behind, api.OK)
		name(t, long[:31], behind, api.OK)
		name(t, long[:32], behind, api.OK)
		name(t, long[:33], behind, api.ErrMany)
		name(t, long, behind, api.ErrMany)
		name(t, "", behind, api.ErrTag)
		name(t, "1a", behind, api.ErrTag)
		name(t, "-a", behind, api.ErrTag)
		name(t, "_a", behind, api.ErrTag)
		name(t, "1"+long, behind, api.ErrTag)
	}
	name(t, strings.Repeat("a", 2*api.MaxText), "", api.ErrMany)
}

func TestNameKnowsItsBytesAlone(t *testing.T) {
	for i := range 256 {
		b := byte(i)
		letter := 'A' <= b && b <= 'Z' || 'a' <= b && b <= 'z'
		goesOn := letter || '0' <= b && b <= '9' || b == '-' || b == '_'
		text := string([]byte{b, 'q'})
		if got, e := scan.New(text).Name(); letter && (got != text || e != api.OK) || !letter && (got != "" || e != api.ErrTag) {
			t.Errorf("Name of %q = %q, %d", text, got, e)
		}
		text, want := string([]byte{'q', b, 'q'}), "q"
		if goesOn {
			want = text
		}
		if got, e := scan.New(text).Name(); got != want || e != api.OK {
			t.Errorf("Name of %q = %q, %d", text, got, e)
		}
	}
}

func TestCutterGoesOnBehindAnError(t *testing.T) {
	c := scan.New("x9223372036854775808")
	if _, e := c.Number(); e != api.ErrNumber {
		t.Error("a number of x:", e)
	}
	if !c.Take('x') {
		t.Error("the x is gone")
	}
	if _, e := c.Number(); e != api.ErrRange {
		t.Error("a number that is too great:", e)
	}
	if _, e := c.Name(); e != api.ErrTag {
		t.Error("a name of digits:", e)
	}
	stands(t, "behind errors", c, "x9223372036854775808", 1)
}

func TestCutterThatNewDidNotMake(t *testing.T) {
	for what, c := range map[string]*scan.Cutter{"nil": nil, "zero": {}} {
		for range 2 { // it does nothing: the second time it answers the same
			if c.At() != 0 || c.Done() || c.Blanks() != 0 {
				t.Errorf("%s: at %d, done %v", what, c.At(), c.Done())
			}
			if b, is := c.Peek(); b != 0 || is {
				t.Errorf("%s sees %d, %v", what, b, is)
			}
			for b := range 256 {
				if c.Take(byte(b)) {
					t.Errorf("%s took %d", what, b)
				}
			}
			if n, e := c.Number(); n != 0 || e != api.ErrNil {
				t.Errorf("%s: Number %d, %d", what, n, e)
			}
			if s, e := c.Name(); s != "" || e != api.ErrNil {
				t.Errorf("%s: Name %q, %d", what, s, e)
			}
		}
	}
}

func TestCutterOfNoTextIsOne(t *testing.T) {
	c := scan.New("")
	if c == nil || !c.Done() || c.Blanks() != 0 {
		t.Error("a cutter of no text is none")
	}
	if _, e := c.Number(); e != api.ErrNumber {
		t.Error("Number of no text:", e)
	}
	if _, e := c.Name(); e != api.ErrTag {
		t.Error("Name of no text:", e)
	}
}
