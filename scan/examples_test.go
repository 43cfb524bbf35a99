package scan_test

import (
	"slices"
	"strings"
	"testing"

	"vivarium/api"
	"vivarium/scan"
)

// The rows of the chapter's section Examples, in their order.

func TestExamplesOfLines(t *testing.T) {
	for text, want := range map[string][]api.Span{
		"ab\r\n\nc\r\r": {{At: 0, Text: "ab"}, {At: 4}, {At: 5, Text: "c\r"}},
		"":              nil,
		"\n":            {{At: 0}},
	} {
		if got := linesOf(text); !slices.Equal(got, want) {
			t.Errorf("Lines(%q) = %v", text, got)
		}
	}
}

func TestExamplesOfFields(t *testing.T) {
	want := []api.Span{{At: 2, Text: "a,"}, {At: 5, Text: "b"}, {At: 7, Text: "c"}}
	if got := scan.Fields("  a, b\tc "); !slices.Equal(got, want) {
		t.Errorf("Fields: %v", got)
	}
}

func TestExamplesOfTheCutter(t *testing.T) {
	c := scan.New("12ab-3 x")
	if n, e := c.Number(); n != 12 || e != api.OK {
		t.Error("Number", n, e)
	}
	if s, e := c.Name(); s != "ab-3" || e != api.OK {
		t.Error("Name", s, e)
	}
	if n := c.Blanks(); n != 1 {
		t.Error("Blanks", n)
	}
	if c.Take('y') || !c.Take('x') || !c.Done() {
		t.Error("Take, Done")
	}
}

func TestExamplesOfNumberAndName(t *testing.T) {
	for text, want := range map[string]api.Errno{"x": api.ErrNumber, "": api.ErrNumber, "9223372036854775808": api.ErrRange} {
		c := scan.New(text)
		if n, e := c.Number(); n != 0 || e != want || c.At() != 0 {
			t.Errorf("Number of %q: %d, %d, at %d", text, n, e, c.At())
		}
	}
	for text, want := range map[string]api.Errno{"-a": api.ErrTag, strings.Repeat("k", 33): api.ErrMany} {
		c := scan.New(text)
		if s, e := c.Name(); s != "" || e != want || c.At() != 0 {
			t.Errorf("Name of %q: %q, %d, at %d", text, s, e, c.At())
		}
	}
}

func TestExamplesOfRuns(t *testing.T) {
	are(t, "3bo$\n02pA!x", 10, api.Run{Count: 3, Tag: "b", At: 0}, api.Run{Count: 1, Tag: "o", At: 2}, api.Run{Count: 1, Tag: "$", At: 3}, api.Run{Count: 2, Tag: "pA", At: 5})
	are(t, "!", 1)
	refused(t, "", 0, api.ErrEarly)
	refused(t, "2", 1, api.ErrEarly)
	refused(t, "p", 1, api.ErrEarly)
	refused(t, "2 o!", 1, api.ErrTag)
	refused(t, "0o!", 0, api.ErrRange)
	refused(t, "oz!", 1, api.ErrTag)
	refused(t, "oyP!", 1, api.ErrTag)
	refused(t, "3!", 1, api.ErrTag)
}

func TestExamplesOfTags(t *testing.T) {
	for tag, of := range map[string]struct {
		state uint8
		many  bool
	}{"b": {0, false}, "o": {1, false}, "": {2, false}, ".": {0, true}, "X": {24, true}, "pA": {25, true}, "yO": {255, true}} {
		if got := scan.Tag(of.state, of.many); got != tag {
			t.Errorf("Tag(%d, %v) = %q", of.state, of.many, got)
		}
	}
	for tag, want := range map[string]int{"b": 0, ".": 0, "yO": 255, "yP": -1, "$": -1, "": -1} {
		if s, is := scan.State(tag); is != (want >= 0) || int(s) != max(want, 0) {
			t.Errorf("State(%q) = %d, %v", tag, s, is)
		}
	}
}
