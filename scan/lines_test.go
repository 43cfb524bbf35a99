package scan_test

import (
	"slices"
	"strings"
	"testing"

	"vivarium/api"
	"vivarium/scan"
)

func linesOf(text string) []api.Span {
	var lines []api.Span
	for at, line := range scan.Lines(text) {
		lines = append(lines, api.Span{At: at, Text: line})
	}
	return lines
}

// modelLines cuts byte by byte, as the chapter says it.
func modelLines(text string) []api.Span {
	var lines []api.Span
	var line []byte
	at := 0
	end := func() {
		if n := len(line); n > 0 && line[n-1] == 13 {
			line = line[:n-1]
		}
		lines = append(lines, api.Span{At: at, Text: string(line)})
	}
	for i := range len(text) {
		if text[i] == 10 {
			end()
			line, at = nil, i+1
			continue
		}
		line = append(line, text[i])
	}
	if len(line) > 0 {
		end()
	}
	return lines
}

// every calls f with all texts of up to n of the letters.
func every(letters string, n int, f func(string)) {
	var grow func(text string)
	grow = func(text string) {
		f(text)
		if len(text) == n {
			return
		}
		for i := range len(letters) {
			grow(text + letters[i:i+1])
		}
	}
	grow("")
}

func TestEveryTellsEachTextOnce(t *testing.T) {
	told := map[string]int{}
	every("ab", 3, func(text string) { told[text]++ })
	if len(told) != 1+2+4+8 {
		t.Fatalf("%d texts: %v", len(told), told)
	}
}

func TestLinesAreCutBehindEachLineEnd(t *testing.T) {
	every("a \r\n", 6, func(text string) {
		if got, want := linesOf(text), modelLines(text); !slices.Equal(got, want) {
			t.Errorf("Lines(%q) = %v, not %v", text, got, want)
		}
	})
}

func TestLinesOfAnyBytes(t *testing.T) {
	all := make([]byte, 512)
	for i := range all {
		all[i] = byte(i)
	}
	for _, text := range []string{string(all), "é\x00\xff\n\x80\r\n\v\f\u2028x", "\r\r\r\n\r\n\n\r"} {
		if got, want := linesOf(text), modelLines(text); !slices.Equal(got, want) {
			t.Errorf("Lines(%q) = %v, not %v", text, got, want)
		}
	}
}

func TestLinesOfALongText(t *testing.T) {
	text := strings.Repeat("ab\r\n\n", api.MaxText/4)
	n := 0
	for at, line := range scan.Lines(text) {
		wantAt, want := n/2*5, "ab"
		if n%2 == 1 {
			wantAt, want = wantAt+4, ""
		}
		if at != wantAt || line != want {
			t.Fatalf("line %d: %d %q", n, at, line)
		}
		n++
	}
	if n != api.MaxText/2 {
		t.Errorf("%d lines", n)
	}
	long := strings.Repeat("a", 3*api.MaxText)
	if got := linesOf(long); !slices.Equal(got, []api.Span{{Text: long}}) {
		t.Errorf("one long line: %d lines", len(got))
	}
}

func TestLinesMayBeLeftAndGoneThroughAgain(t *testing.T) {
	lines := scan.Lines("a\nbb\r\n\nc")
	want := modelLines("a\nbb\r\n\nc")
	for stop := range len(want) + 1 {
		var got []api.Span
		for at, line := range lines {
			if len(got) == stop {
				break
			}
			got = append(got, api.Span{At: at, Text: line})
		}
		if !slices.Equal(got, want[:stop]) {
			t.Errorf("left at %d: %v", stop, got)
		}
	}
	for at, line := range lines { // one going within another
		var inner []api.Span
		for a, l := range lines {
			inner = append(inner, api.Span{At: a, Text: l})
		}
		if !slices.Equal(inner, want) || !slices.Contains(want, api.Span{At: at, Text: line}) {
			t.Errorf("within line %d: %v", at, inner)
		}
	}
}

func TestLinesAskedNoMoreWhenLeft(t *testing.T) {
	calls := 0
	scan.Lines("a\nb\nc")(func(int, string) bool {
		calls++
		return calls < 2
	})
	if calls != 2 {
		t.Errorf("asked %d times", calls)
	}
}

func TestLinesOfNoTextAreNone(t *testing.T) {
	lines := scan.Lines("")
	if lines == nil {
		t.Fatal("nothing to go through")
	}
	for at, line := range lines {
		t.Errorf("a line %q at %d", line, at)
	}
}
