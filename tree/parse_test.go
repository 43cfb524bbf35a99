package tree_test

import (
	"slices"
	"strings"
	"testing"

	"vivarium/api"
	"vivarium/tree"
)

// P11.6: texts that are read, and those that are not.

func reads(t *testing.T, s string, want api.Tree) {
	t.Helper()
	if k, at, e := tree.Parse(s); !same(k, want) || at != 0 || e != api.OK {
		t.Errorf("Parse(%q) = %v, %d, %d, not %v", cut(s), brief(k), at, e, brief(want))
	}
}

func refuses(t *testing.T, s string, e api.Errno, at int) {
	t.Helper()
	if k, where, f := tree.Parse(s); !zero(k) || where != at || f != e {
		t.Errorf("Parse(%q) = %v, %d, %d, not %d at %d", cut(s), brief(k), where, f, e, at)
	}
}

// met counts trees that are read, that may not be, and texts with a fault.
type met [3]int

// asModel looks whether a text is read as the model reads it.
func (m *met) asModel(t *testing.T, s string) {
	t.Helper()
	want, wantAt, wantE := modelParse(s)
	switch {
	case wantE == api.OK:
		m[0]++
	case wantAt == 0:
		m[1]++
	default:
		m[2]++
	}
	if k, at, e := tree.Parse(s); !same(k, want) || at != wantAt || e != wantE {
		t.Errorf("Parse(%q) = %v, %d, %d, not %v, %d, %d", s, brief(k), at, e, want, wantAt, wantE)
	}
}

// often looks whether each of the three was met so many times.
func (m *met) often(t *testing.T, least ...int) {
	t.Helper()
	for i, n := range m {
		if n < least[i] {
			t.Errorf("of the kind %d: %d", i, n)
		}
	}
}

const one = "tree 2 1 3 2\n= 0\n= 1\n0 1\n"

// texts are texts of trees, of many forms.
var texts = []string{
	one,
	"tree 2 0 1 0\n= 1\n",
	"tree 1 2 3 2\n= 0\n0\n1\n",
	"tree 2 2 9 5\n= 1\n= 0\n= 0\n1 0\n2 0\n3 4\n5 5\n= 1\n6 6\n",
	"tree 3 1 12 11\n= 2\n= 1\n= 0\n= 0\n= 0\n= 0\n= 0\n= 0\n= 0\n= 0\n= 0\n10 0 9\n",
	"tree 256 0 2 1\n= 25\n= 255\n",
}

func TestParseOfTexts(t *testing.T) {
	for _, s := range texts {
		k, at, e := modelParse(s)
		if at != 0 || e != api.OK {
			t.Fatal(s)
		}
		reads(t, s, k)
	}
}

// TestParseWithEveryByteAtEveryPlace: each byte in the place of another, ahead of another, and at the end.
func TestParseWithEveryByteAtEveryPlace(t *testing.T) {
	var seen met
	letters := "0123456789 =\n\r\ttreTxX-+.,:_/\x00\x0b\x7f\x80\xa0\xff"
	for i, s := range texts[:4] {
		if i == 0 {
			for b := range 256 {
				letters += string([]byte{byte(b)})
			}
		} else {
			letters = letters[:min(len(letters), 33)]
		}
		for at := 0; at <= len(s); at++ {
			for j := range len(letters) {
				letter := letters[j : j+1]
				seen.asModel(t, s[:at]+letter+s[at:])
				if at < len(s) {
					seen.asModel(t, s[:at]+letter+s[at+1:])
				}
			}
		}
	}
	seen.often(t, 50, 300, 1000)
}

// TestParseWithoutSomeBytes: each piece taken out, so that the text ends early or something lacks.
func TestParseWithoutSomeBytes(t *testing.T) {
	var seen met
	for _, s := range texts {
		for from := 0; from <= len(s); from++ {
			for to := from; to <= len(s); to++ {
				seen.asModel(t, s[:from]+s[to:])
			}
		}
	}
	seen.often(t, 50, 50, 500)
}

// TestParseWithTwoFaults: any two of the faults at any two places.
func TestParseWithTwoFaults(t *testing.T) {
	var seen met
	faults := []string{"x", "0", "65537", " ", "\n", "=", "\r", "999999999", "1234567890"}
	for _, s := range texts[:2] {
		for i := 0; i <= len(s); i++ {
			for j := i; j <= len(s); j++ {
				for _, one := range faults {
					for _, two := range faults {
						if (i+j+len(one)+len(two))%3 == 0 {
							seen.asModel(t, s[:i]+one+s[i:j]+two+s[j:])
						}
					}
				}
			}
		}
	}
	seen.often(t, 1, 100, 1000)
}

func TestParseOfTextsThatEndEarly(t *testing.T) {
	for _, s := range texts {
		for n := range len(s) {
			refuses(t, s[:n], api.ErrTree, n)
		}
	}
	refuses(t, "tree 2 0 65536 0\n", api.ErrTree, 17)
	refuses(t, "tree 2 0 2 0\n= 0\n", api.ErrTree, 17)
	refuses(t, "tree 2 0 123", api.ErrTree, 12)
}

// TestParseOfTextsThatGoOn: one byte more of any kind, and a line more that could be a node's.
func TestParseOfTextsThatGoOn(t *testing.T) {
	for _, s := range texts {
		for b := range 256 {
			refuses(t, s+string([]byte{byte(b)}), api.ErrTree, len(s))
		}
		refuses(t, s+"= 0\n", api.ErrTree, len(s))
		refuses(t, s+s, api.ErrTree, len(s))
	}
}

// replaced is a text of the tree of one input with one thing in the place of another, of which there must be one.
func replaced(t *testing.T, s, old, by string) string {
	t.Helper()
	if strings.Count(s, old) != 1 {
		t.Fatalf("%q in %q", old, s)
	}
	return strings.Replace(s, old, by, 1)
}

func TestParseOfEachFault(t *testing.T) {
	for _, c := range []struct {
		old, by string
		at      int
	}{
		{"tree", "", 0}, {"tree", "Tree", 0}, {"tree", "tres", 3}, {"tree", "trees", 4}, {"tree", " tree", 0}, {"tree", "\ntree", 0}, {"tree", "tree ", 5}, {"tree", "\xef\xbb\xbftree", 0},
		{"e 2", "e 02", 6}, {"e 2", "e 00", 6}, {"e 2", "e -2", 5}, {"e 2", "e +2", 5}, {"e 2", "e  2", 5}, {"e 2", "e\t2", 4}, {"e 2", "e 0000000002", 6}, {"e 2", "e ", 5}, {"e 2", "e x", 5},
		{"e 2", "e 2x", 6}, {"e 2", "e 1234567890", 14}, {"e 2", "e 12345678901", 14}, {"e 2", "e 2\n", 6}, {"e 2", "e 2.0", 6},
		{"2 1", "2 01", 8}, {"2 1", "2  1", 7}, {"2 1", "2 1  ", 9}, {"2 1", "2 1 =", 9}, {"2 1", "2\n1", 6}, {"2 1", "2 1000000000", 16}, {"2 1", "2 9999999999", 16},
		{"1 3", "1 03", 10}, {"1 3", "1  3", 9}, {"1 3", "1 \n3", 9}, {"1 3", "1 3x", 10}, {"1 3", "1 -3", 9}, {"1 3", "1 03000000000", 10},
		{"3 2\n", "3 02\n", 12}, {"3 2\n", "3 2 \n", 12}, {"3 2\n", "3 2 0\n", 12}, {"3 2\n", "3 2\r\n", 12}, {"3 2\n", "3 2\n\n", 13}, {"3 2\n", "3\n", 10}, {"3 2\n", "3 \n", 11}, {"3 2\n", "3 2222222222\n", 20}, {"3 2\n", "3 -2\n", 11},
		{"= 0", "=0", 14}, {"= 0", "=  0", 15}, {"= 0", " = 0", 13}, {"= 0", "= 0 ", 16}, {"= 0", "= 00", 16}, {"= 0", "= 01", 16}, {"= 0", "= 0 1", 16}, {"= 0", "= ", 15}, {"= 0", "=", 14}, {"= 0", "= =", 15}, {"= 0", "= -0", 15},
		{"= 0", "= 1234567890", 24}, {"= 0", "= 0\r", 16}, {"= 0", "\r= 0", 13}, {"= 0", "= 0\n\n", 17}, {"= 0", "= 0=", 16}, {"= 0", "x", 13}, {"= 0", "", 13}, {"= 0", " ", 13},
		{"0 1\n", "0  1\n", 23}, {"0 1\n", " 0 1\n", 21}, {"0 1\n", "0 1 \n", 25}, {"0 1\n", "0 01\n", 24}, {"0 1\n", "00 1\n", 22}, {"0 1\n", "0 \n", 23}, {"0 1\n", "\n", 21}, {"0 1\n", "0,1\n", 22}, {"0 1\n", "0\t1\n", 22}, {"0 1\n", "0 = 1\n", 23},
		{"0 1\n", "0 1\r\n", 24}, {"0 1\n", "0 1234567890\n", 32}, {"0 1\n", "1234567890 1\n", 30}, {"0 1\n", "0 1=\n", 24}, {"0 1\n", "0 -1\n", 23}, {"0 1\n", "-1 0\n", 21}, {"0 1\n", "0 1", 24}, {"0 1\n", "0 ", 23}, {"0 1\n", "0", 22}, {"0 1\n", "", 21},
		{"0 1\n", "0 1 0 1 x\n", 29}, {"0 1\n", "0 1\x00\n", 24}, {"0 1\n", "0 1\n\x00", 25}, {"0 1\n", "0 1\n\n", 25}, {"0 1\n", "0 1\n0 1\n", 25},
	} {
		refuses(t, replaced(t, one, c.old, c.by), api.ErrTree, c.at)
	}
	for _, s := range []string{"", "t", "tree", "tree ", "tree 2 1 3 2", "tree 2 1 3 2\n"} {
		refuses(t, s, api.ErrTree, len(s))
	}
	refuses(t, strings.ReplaceAll(one, "\n", "\r\n"), api.ErrTree, 12)
}

// TestParseOfTooManyNodes: the third number's place counts, but for a fault further left.
func TestParseOfTooManyNodes(t *testing.T) {
	for _, number := range []string{"65537", "65538", "70000", "100000", "131072", "4294967297", "999999999", "1234567890", "18446744073709551617"} {
		for _, behind := range []string{"", " ", " 0", " 0\n", " 0\n= 0\n", "x", "\n", "  0\n", " 00\n", " 0\nx", " x\n", "\r\n", " 1234567890\n", " 0\n\n", " 65537 0\n"} {
			refuses(t, "tree 2 0 "+number+behind, api.ErrTree, 9)
			refuses(t, "tree 222 16 "+number+behind, api.ErrTree, 12)
			refuses(t, "tree 999999999 0 "+number+behind, api.ErrTree, 17)
			for ahead, at := range map[string]int{"tree 2 00 ": 8, "tree 2  0 ": 7, "tree 2 0  ": 9, "tree 02 0 ": 6, "Tree 2 0 ": 0, "tree 2\r 0 ": 6, "tree 1234567890 0 ": 14, "tree 2 1234567890 ": 16, "tree 2 0 -": 9, "tree 2 0 0": 10, "tree\n2 0 ": 4, "tree 2 x ": 7} {
				refuses(t, ahead+number+behind, api.ErrTree, at)
			}
		}
	}
	refuses(t, "tree 2 65537", api.ErrTree, 12)
	refuses(t, "tree 65537 65537 1 65537\n= 0\n", api.ErrTree, 0)
	refuses(t, "tree 2 0 6553", api.ErrTree, 13)
	refuses(t, "tree 2 0 65536", api.ErrTree, 14)
	refuses(t, "tree 2 0 65536x", api.ErrTree, 14)
	refuses(t, "tree 2 0 065537", api.ErrTree, 10)
	leaves := strings.Repeat("= 0\n", api.MaxNodes)
	reads(t, "tree 2 0 65536 65535\n"+leaves, make2(0, api.MaxNodes-1, make([]api.Branch, api.MaxNodes)...))
	refuses(t, "tree 2 0 65536 65536\n"+leaves, api.ErrTree, 0)
	refuses(t, "tree 2 0 65536 0\n"+leaves+"= 0\n", api.ErrTree, 17+len(leaves))
	refuses(t, "tree 2 0 65537 0\n"+leaves+"= 0\n", api.ErrTree, 9)
}

// TestParseOfTreesThatMayNotBe: the form is all right.
func TestParseOfTreesThatMayNotBe(t *testing.T) {
	var seen met
	nodes := slices.DeleteFunc(slices.Clone(smallNodes), func(n api.Branch) bool { // those that no text tells
		return slices.Contains(n.Kids, -1) || n.State > 0 && len(n.Kids) > 0
	})
	everyTree(nodes, 3, func(k api.Tree) {
		if k.Root < 0 || k.Inputs < 0 {
			return
		}
		if modelMayBe(k) {
			reads(t, rawText(k), k)
			seen[0]++
		} else {
			refuses(t, rawText(k), api.ErrTree, 0)
			seen[1]++
		}
	})
	seen.often(t, 200, 1000, 0)
	for _, c := range [][2]string{
		{"e 2 1", "e 0 1"}, {"e 2 1", "e 1 1"}, {"e 2 1", "e 3 1"}, {"e 2 1", "e 257 1"}, {"e 2 1", "e 258 1"}, {"e 2 1", "e 999999999 1"}, {"2 1 3", "2 0 3"}, {"2 1 3", "2 2 3"}, {"2 1 3", "2 17 3"}, {"2 1 3", "2 999999999 3"},
		{"3 2\n", "3 0\n"}, {"3 2\n", "3 3\n"}, {"3 2\n", "3 999999999\n"}, {"= 0", "= 2"}, {"= 0", "= 255"}, {"= 0", "= 256"}, {"= 0", "= 257"}, {"= 0", "= 65536"}, {"= 0", "= 999999999"}, {"= 0", "0"}, {"= 0", "0 0"}, {"= 0", "999999999"},
		{"0 1\n", "0\n"}, {"0 1\n", "0 1 0\n"}, {"0 1\n", "0 2\n"}, {"0 1\n", "2 0\n"}, {"0 1\n", "0 3\n"}, {"0 1\n", "0 999999999\n"}, {"0 1\n", "256 256\n"}, {"0 1\n", "= 0\n"}, {"0 1\n", "= 256\n"},
	} {
		refuses(t, replaced(t, one, c[0], c[1]), api.ErrTree, 0)
	}
	for _, s := range []string{"tree 2 0 0 0\n", "tree 0 0 0 0\n", "tree 256 0 1 0\n= 256\n", "tree 256 0 1 0\n= 512\n", "tree 256 0 2 0\n= 0\n= 256\n", "tree 256 0 1 0\n= 429496729\n", "tree 257 0 1 0\n= 256\n"} {
		refuses(t, s, api.ErrTree, 0)
	}
	refuses(t, "tree 2 0 0 0\n= 0\n", api.ErrTree, 13)
	refuses(t, "tree 2 0 2 0\n= 256\n= 0x\n", api.ErrTree, 22)
	refuses(t, "tree 2 0 2 0\n= 256\n", api.ErrTree, 19)
	refuses(t, "tree 2 0 1 0\n= 256\n= 0\n", api.ErrTree, 19)
	refuses(t, "tree 0 99 1 7\n5 5 5 5\n=", api.ErrTree, 22)
}

// TestParseOfMostStatesAndInputs: the edges that can be.
func TestParseOfMostStatesAndInputs(t *testing.T) {
	for _, k := range []api.Tree{constant(256, 16, 255), constant(1, 16, 0), constant(256, 0, 255), constant(1, 0, 0), constant(255, 3, 254)} {
		reads(t, rawText(k), k)
	}
	for _, k := range []api.Tree{constant(256, 17, 255), constant(257, 16, 255), constant(257, 0, 0)} {
		refuses(t, rawText(k), api.ErrTree, 0)
	}
}

func TestParseOfLongTexts(t *testing.T) {
	k := long(t, api.MaxText)
	text := rawText(k)
	reads(t, text, k)
	refuses(t, text[:len(text)-1], api.ErrTree, api.MaxText-1)
	refuses(t, text[:len(text)-1]+" ", api.ErrTree, api.MaxText)
	refuses(t, text[:len(text)-1]+"x", api.ErrTree, api.MaxText-1)
	refuses(t, "x"+text[1:], api.ErrTree, 0)
	refuses(t, text+"\n", api.ErrText, 0)
	refuses(t, rawText(long(t, api.MaxText+1)), api.ErrText, 0)
	refuses(t, strings.Repeat("x", api.MaxText+1), api.ErrText, 0)
	refuses(t, strings.Repeat("x", api.MaxText), api.ErrTree, 0)
	refuses(t, "tree 2 0 65537 0\n"+strings.Repeat("= 0\n", 1<<18), api.ErrText, 0)
	refuses(t, "tree "+strings.Repeat("1", api.MaxText-5), api.ErrTree, 14)
	refuses(t, "tree "+strings.Repeat("0", api.MaxText-5), api.ErrTree, 6)
	kids := "tree 2 1 1 0\n0" + strings.Repeat(" 1", api.MaxText/2-8)
	refuses(t, kids+"\n", api.ErrTree, 0)
	refuses(t, kids, api.ErrTree, len(kids))
	refuses(t, kids+" ", api.ErrTree, len(kids)+1)
}
