package scan_test

import (
	"slices"
	"strconv"
	"strings"
	"testing"

	"vivarium/api"
	"vivarium/scan"
)

// mixer is a row of numbers that look mixed, the same each time.
type mixer uint64

func (m *mixer) below(n int) int {
	*m = *m*6364136223846793005 + 1442695040888963407
	return int(*m>>33) % n
}

func TestEveryLineStandsAtItsPlace(t *testing.T) {
	every("a\r\n", 7, func(text string) {
		for at, line := range scan.Lines(text) {
			if at < 0 || at >= len(text) || !strings.HasPrefix(text[at:], line) {
				t.Errorf("Lines(%q): %q is not at %d", text, line, at)
			}
			if at > 0 && text[at-1] != 10 {
				t.Errorf("Lines(%q): a line begins at %d", text, at)
			}
		}
	})
}

func TestLinesThatAreWrittenAreRead(t *testing.T) {
	m := mixer(7)
	for range 500 {
		var want []api.Span
		var text strings.Builder
		for range m.below(6) {
			line := ""
			for range m.below(5) {
				line += string([]byte{"ab \t\r\x00\xff"[m.below(7)]})
			}
			line = strings.TrimRight(line, "\r")
			want = append(want, api.Span{At: text.Len(), Text: line})
			text.WriteString(line + "\n")
		}
		if got := linesOf(text.String()); !slices.Equal(got, want) {
			t.Errorf("Lines(%q) = %v", text.String(), got)
		}
	}
}

func TestStateOfTagIsTheState(t *testing.T) {
	for _, many := range []bool{false, true} {
		for s := range 256 {
			tag := scan.Tag(uint8(s), many)
			if tag == "" {
				continue
			}
			if got, is := scan.State(tag); int(got) != s || !is {
				t.Errorf("State(Tag(%d, %v)) = %d, %v", s, many, got, is)
			}
		}
	}
}

// someTag is the tag of a state, or the end of a row.
func someTag(m *mixer) string {
	switch m.below(4) {
	case 0:
		return "$"
	case 1:
		return scan.Tag(uint8(m.below(2)), false)
	}
	return scan.Tag(uint8(m.below(256)), true)
}

func TestRunsThatAreWrittenAreRead(t *testing.T) {
	m := mixer(11)
	counts := []int{1, 2, 9, 10, 77, 1 << 31, api.MaxFar - 1, api.MaxFar}
	for range 1000 {
		var want []api.Run
		var text strings.Builder
		gap := func() { text.WriteString(" \t\n\r  \n\n"[:m.below(9)]) }
		for range m.below(8) {
			gap()
			run := api.Run{Count: counts[m.below(len(counts))], Tag: someTag(&m), At: text.Len()}
			want = append(want, run)
			text.WriteString(strconv.Itoa(run.Count) + run.Tag)
		}
		gap()
		text.WriteString("!")
		length := text.Len()
		gap()
		runs, at, e := scan.Runs(text.String())
		if !slices.Equal(runs, want) || at != length || e != api.OK {
			t.Errorf("Runs(%q) = %v, %d, %d", text.String(), runs, at, e)
		}
	}
}
