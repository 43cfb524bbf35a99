package scan_test

import (
	"slices"
	"strings"
	"testing"

	"vivarium/api"
	"vivarium/scan"
)

// modelFields looks at each byte whether a piece begins there or goes on.
func modelFields(line string) []api.Span {
	var fields []api.Span
	within := false
	for i := range len(line) {
		switch {
		case line[i] == 32 || line[i] == 9:
			within = false
		case within:
			fields[len(fields)-1].Text += line[i : i+1]
		default:
			within = true
			fields = append(fields, api.Span{At: i, Text: line[i : i+1]})
		}
	}
	return fields
}

func TestFieldsAreThePiecesBetweenBlanks(t *testing.T) {
	every("ab \t\n", 5, func(line string) {
		if got, want := scan.Fields(line), modelFields(line); !slices.Equal(got, want) {
			t.Errorf("Fields(%q) = %v, not %v", line, got, want)
		}
	})
}

func TestFieldsKnowTwoBlanksAlone(t *testing.T) {
	for b := range 256 {
		line := "x" + string([]byte{byte(b)}) + "y"
		want := []api.Span{{At: 0, Text: line}}
		if b == 32 || b == 9 {
			want = []api.Span{{At: 0, Text: "x"}, {At: 2, Text: "y"}}
		}
		if got := scan.Fields(line); !slices.Equal(got, want) {
			t.Errorf("Fields(%q) = %v", line, got)
		}
	}
}

func TestFieldsOfNothingAreNone(t *testing.T) {
	for _, line := range []string{"", " ", "\t", " \t \t  "} {
		if got := scan.Fields(line); len(got) != 0 {
			t.Errorf("Fields(%q) = %v", line, got)
		}
	}
}

func TestFieldsOfALongLine(t *testing.T) {
	got := scan.Fields(strings.Repeat("a ", api.MaxText))
	if len(got) != api.MaxText || got[api.MaxText-1] != (api.Span{At: 2*api.MaxText - 2, Text: "a"}) {
		t.Errorf("%d fields", len(got))
	}
}

func TestFieldsAreNewEachTime(t *testing.T) {
	one, two := scan.Fields("a b"), scan.Fields("a b")
	one[0] = api.Span{}
	if !slices.Equal(two, []api.Span{{At: 0, Text: "a"}, {At: 2, Text: "b"}}) {
		t.Errorf("two answers share memory: %v", two)
	}
}
