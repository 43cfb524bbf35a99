package rle_test

import (
	"strings"
	"testing"

	"vivarium/api"
	"vivarium/rle"
)

// P22.4: a rule's text and its topology's.

func TestSplitWithoutAColon(t *testing.T) {
	for _, rule := range []string{"", "t", "P", "B3/S23", " a b ", "a;b", "é", "：", "\x00\xff\n", strings.Repeat("x", api.MaxText+1)} {
		splits(t, rule, rule, "P", len(rule))
	}
}

func TestSplitAtTheFirstColon(t *testing.T) {
	splits(t, ":", "", "", 1)
	splits(t, "::", "", ":", 1)
	splits(t, ":a", "", "a", 1)
	splits(t, ":a:b", "", "a:b", 1)
	splits(t, "a:", "a", "", 2)
	splits(t, "a::", "a", ":", 2)
	splits(t, "a:b", "a", "b", 2)
	splits(t, " a : b ", " a ", " b ", 4)
	splits(t, "é:\xff:", "é", "\xff:", 3)
	splits(t, "a\n:\r", "a\n", "\r", 3)
	long := strings.Repeat("x", api.MaxText)
	splits(t, long+":"+long, long, long, len(long)+1)
}

// TestSplitLosesNothing: what it answers, put together again, is the rule's text.
func TestSplitLosesNothing(t *testing.T) {
	every(":Pa", 6, func(rule string) {
		name, topology, at := rle.Split(rule)
		if strings.Contains(name, ":") {
			t.Errorf("Split(%q): a colon in %q", rule, name)
		}
		if !strings.Contains(rule, ":") {
			splits(t, rule, rule, "P", len(rule))
			return
		}
		if name+":"+topology != rule || rule[at:] != topology {
			t.Errorf("Split(%q) = %q, %q, %d", rule, name, topology, at)
		}
	})
}

// every goes through all texts of some letters, up to a length.
func every(letters string, most int, see func(string)) {
	see("")
	if most == 0 {
		return
	}
	for i := range len(letters) {
		every(letters, most-1, func(rest string) { see(letters[i:i+1] + rest) })
	}
}
