package topo_test

import (
	"strings"
	"testing"

	"vivarium/api"
	"vivarium/topo"
)

// brief is a text as a test tells it.
func brief(s string) string {
	if len(s) > 60 {
		return s[:30] + ".." + s[len(s)-20:]
	}
	return s
}

// reads looks at a text that tells a topology.
func reads(t *testing.T, s string, want api.Topo) {
	t.Helper()
	if a, at, e := topo.Parse(s); a != want || at != 0 || e != api.OK {
		t.Errorf("Parse(%q) = %v, %d, %d, not %v", brief(s), a, at, e, want)
	}
}

// refuses looks at a text that tells none.
func refuses(t *testing.T, s string, e api.Errno, at int) {
	t.Helper()
	if a, where, f := topo.Parse(s); a != (api.Topo{}) || where != at || f != e {
		t.Errorf("Parse(%q) = %v, %d, %d, not %d at %d", brief(s), a, where, f, e, at)
	}
}

// everyText goes through all texts of at most so many of the pieces behind a beginning.
func everyText(begin string, pieces []string, most int, see func(string)) {
	see(begin)
	if most == 0 {
		return
	}
	for _, p := range pieces {
		everyText(begin+p, pieces, most-1, see)
	}
}

// asModel looks whether a text is read as the model reads it, and counts what was answered.
func asModel(t *testing.T, s string, met map[api.Errno]int) {
	t.Helper()
	want, wantAt, wantE := modelParse(s)
	met[wantE]++
	if a, at, e := topo.Parse(s); a != want || at != wantAt || e != wantE {
		t.Errorf("Parse(%q) = %v, %d, %d, not %v, %d, %d", s, a, at, e, want, wantAt, wantE)
	}
}

func TestParseOfAllShortTexts(t *testing.T) {
	met := map[api.Errno]int{}
	see := func(s string) { asModel(t, s, met) }
	everyText("", strings.Split("PTKCSptkcs03*+-, x", ""), 3, see)
	for _, letter := range []string{"P", "t", "K", "c", "S"} {
		everyText(letter, strings.Split("013*+-,x", ""), 5, see)
	}
	for _, e := range []api.Errno{api.OK, api.ErrKind, api.ErrSide, api.ErrShift, api.ErrMore, api.ErrEndless, api.ErrTwist} {
		if met[e] < 20 {
			t.Errorf("%d was answered %d times", e, met[e])
		}
	}
}

// everyPart are parts of all kinds, and some that are none.
func everyPart() []string {
	numbers := []string{"", "0", "1", "003", "7", "65536", "65537", "18446744073709551617"}
	var parts []string
	for _, n := range numbers {
		for _, star := range []string{"", "*"} {
			parts = append(parts, n+star)
			for _, sign := range []string{"+", "-"} {
				for _, shift := range []string{"", "00", "2", "3", "6", "065535", "65536", "18446744073709551617"} {
					parts = append(parts, n+star+sign+shift)
				}
			}
		}
	}
	return parts
}

func TestParseOfAllPairsOfParts(t *testing.T) {
	met := map[api.Errno]int{}
	parts := everyPart()
	for _, letter := range strings.Split("pTkCS", "") {
		for _, one := range parts {
			asModel(t, letter+one, met)
			for _, two := range parts {
				asModel(t, letter+one+","+two, met)
			}
		}
	}
	for _, e := range []api.Errno{api.OK, api.ErrSide, api.ErrShift, api.ErrMore, api.ErrEndless, api.ErrTwist} {
		if met[e] < 20 {
			t.Errorf("%d was answered %d times", e, met[e])
		}
	}
}

func TestParseKnowsTenLetters(t *testing.T) {
	for b := range 256 {
		letter := string([]byte{byte(b)})
		i := strings.Index("PTKCSptkcs", letter)
		switch {
		case i < 0:
			refuses(t, letter, api.ErrKind, 0)
			refuses(t, letter+"3", api.ErrKind, 0)
			refuses(t, letter+"T3", api.ErrKind, 0)
		case i%5 == 2:
			reads(t, letter+"3*", api.Topo{Kind: api.Klein, W: 3, H: 3, Turn: api.TurnWide})
		default:
			reads(t, letter+"3", api.Topo{Kind: kinds[i%5], W: 3, H: 3})
		}
	}
}

func TestParseOfALetterAlone(t *testing.T) {
	reads(t, "P", api.Topo{Kind: api.Plane})
	reads(t, "p", api.Topo{Kind: api.Plane})
	reads(t, "T", api.Topo{Kind: api.Torus})
	reads(t, "t", api.Topo{Kind: api.Torus})
	for _, letter := range strings.Split("KCSkcs", "") {
		refuses(t, letter, api.ErrSide, 1)
	}
	for b := range 256 {
		if '0' <= b && b <= '9' {
			continue
		}
		for _, letter := range strings.Split("PTKCSptkcs", "") {
			refuses(t, letter+string([]byte{byte(b)}), api.ErrSide, 1)
			refuses(t, letter+string([]byte{byte(b)})+"3", api.ErrSide, 1)
		}
	}
}

func TestParseTakesDigitsAlone(t *testing.T) {
	for b := range 256 {
		letter, is := string([]byte{byte(b)}), '0' <= b && b <= '9'
		if !is {
			refuses(t, "T3,"+letter, api.ErrSide, 3)
			refuses(t, "T3+"+letter, api.ErrShift, 3)
			refuses(t, "T3,4-"+letter, api.ErrShift, 5)
		}
		if !is && !strings.Contains("*+-,", letter) {
			refuses(t, "T3"+letter, api.ErrMore, 2)
			refuses(t, "T3,4"+letter, api.ErrMore, 4)
		}
		if !is && letter != "," {
			refuses(t, "T3+1"+letter, api.ErrMore, 4)
		}
		if !is {
			refuses(t, "S3"+letter, api.ErrMore, 2)
			refuses(t, "T3,4+1"+letter, api.ErrMore, 6)
		}
	}
}

func TestParseOfOnePartForBothSides(t *testing.T) {
	reads(t, "T5-4", api.Topo{Kind: api.Torus, W: 5, H: 5, Turn: api.TurnWide, Shift: -4})
	reads(t, "K5*", api.Topo{Kind: api.Klein, W: 5, H: 5, Turn: api.TurnWide})
	reads(t, "K5*-2", api.Topo{Kind: api.Klein, W: 5, H: 5, Turn: api.TurnWide, Shift: -2})
	reads(t, "C1", api.Topo{Kind: api.Cross, W: 1, H: 1})
	reads(t, "P0", api.Topo{Kind: api.Plane})
	refuses(t, "T5+5", api.ErrShift, 2)
	refuses(t, "K5+2", api.ErrTwist, 4)
	refuses(t, "K0*", api.ErrEndless, 1)
	refuses(t, "T0+0", api.ErrShift, 2)
}

func TestParseOfSides(t *testing.T) {
	reads(t, "P65536,1", api.Topo{Kind: api.Plane, W: 65536, H: 1})
	reads(t, "S65536", api.Topo{Kind: api.Sphere, W: 65536, H: 65536})
	reads(t, "T0,7", api.Topo{Kind: api.Torus, H: 7})
	reads(t, "T7,0", api.Topo{Kind: api.Torus, W: 7})
	refuses(t, "P65537,1", api.ErrSide, 1)
	refuses(t, "P1,65537", api.ErrSide, 3)
	refuses(t, "P65537,65537", api.ErrSide, 1)
	refuses(t, "S65537", api.ErrSide, 1)
	refuses(t, "S0", api.ErrEndless, 1)
	refuses(t, "C0,0", api.ErrEndless, 1)
	refuses(t, "C5,000", api.ErrEndless, 3)
}

func TestParseOfNoughtsAhead(t *testing.T) {
	reads(t, "T007,0003-002", api.Topo{Kind: api.Torus, W: 7, H: 3, Turn: api.TurnHigh, Shift: -2})
	reads(t, "K00065536*+00000000000000000000000065535,1", api.Topo{Kind: api.Klein, W: 65536, H: 1, Turn: api.TurnWide, Shift: 65535})
	refuses(t, "T00065537", api.ErrSide, 1)
	refuses(t, "T3,00065537", api.ErrSide, 3)
	refuses(t, "T3+000,4", api.ErrShift, 2)
	refuses(t, "T3-00,4", api.ErrShift, 2)
}

func TestParseOfNumbersOfAnyLength(t *testing.T) {
	for _, n := range []string{"9223372036854775807", "9223372036854775808", "18446744073709551615", "18446744073709551616", "18446744073709551618", strings.Repeat("9", 1000)} {
		refuses(t, "T"+n, api.ErrSide, 1)
		refuses(t, "T3,"+n+"*", api.ErrSide, 3)
		refuses(t, "T3+"+n+",4", api.ErrShift, 2)
		refuses(t, "T3,4-"+n, api.ErrShift, 4)
		refuses(t, "K3*-"+n, api.ErrShift, 3)
		refuses(t, "T"+n+"x", api.ErrMore, 1+len(n))
		refuses(t, "T"+n+",", api.ErrSide, 2+len(n))
		refuses(t, "T3+"+n+"+", api.ErrMore, 3+len(n))
		refuses(t, "T3+"+n+",4+", api.ErrShift, 6+len(n))
	}
}

func TestParseOfASecondStarOrSign(t *testing.T) {
	refuses(t, "K3**", api.ErrMore, 3)
	refuses(t, "K3*+1*", api.ErrMore, 5)
	refuses(t, "K3+1*", api.ErrMore, 4)
	refuses(t, "T3+1+1", api.ErrMore, 4)
	refuses(t, "T3+-1", api.ErrShift, 3)
	refuses(t, "K3*,4*", api.ErrTwist, 5)
	refuses(t, "C3*,4*", api.ErrTwist, 2)
	refuses(t, "P3,4*", api.ErrTwist, 4)
	refuses(t, "T3+1,4+1", api.ErrShift, 6)
	refuses(t, "K3*+1,4+1", api.ErrShift, 7)
	refuses(t, "K3+1,4*+1", api.ErrShift, 2)
}

func TestParseTellsTheFaultThatCounts(t *testing.T) {
	// Of form ahead of sense, wherever it stands.
	refuses(t, "C65537*+9,0x", api.ErrMore, 11)
	refuses(t, "C65537*+9,", api.ErrSide, 10)
	refuses(t, "C65537*+9,0-", api.ErrShift, 12)
	// Of several of form the leftmost.
	refuses(t, "T,+", api.ErrSide, 1)
	refuses(t, "T3+,", api.ErrShift, 3)
	refuses(t, "T3x,", api.ErrMore, 2)
	// Of sense by their codes, each from the left.
	refuses(t, "C0*+9,65537", api.ErrSide, 6)
	refuses(t, "C3*+9,0", api.ErrEndless, 6)
	refuses(t, "C3+9,4*", api.ErrTwist, 6)
	refuses(t, "K3+9,4", api.ErrTwist, 6)
	refuses(t, "C3+9,4+9", api.ErrShift, 2)
	refuses(t, "T3+1,4+9", api.ErrShift, 6)
	refuses(t, "T3+9,4+1", api.ErrShift, 2)
	refuses(t, "T3+1,0+1", api.ErrShift, 2)
	refuses(t, "T0,3+1", api.ErrShift, 4)
	reads(t, "T3,4+3", api.Topo{Kind: api.Torus, W: 3, H: 4, Turn: api.TurnHigh, Shift: 3})
}

func TestParseOfLongTexts(t *testing.T) {
	noughts := strings.Repeat("0", api.MaxText-2)
	reads(t, "T"+noughts+"3", api.Topo{Kind: api.Torus, W: 3, H: 3})
	refuses(t, "T"+noughts+"03", api.ErrText, 0)
	refuses(t, "T"+noughts+"x", api.ErrMore, api.MaxText-1)
	refuses(t, "T"+noughts+"0x", api.ErrText, 0)
	refuses(t, "T"+noughts+",", api.ErrSide, api.MaxText)
	refuses(t, "T"+strings.Repeat("9", api.MaxText-1), api.ErrSide, 1)
	refuses(t, "T"+strings.Repeat("9", api.MaxText), api.ErrText, 0)
	refuses(t, "T3+"+strings.Repeat("9", api.MaxText-3), api.ErrShift, 2)
	refuses(t, "K"+noughts+"3", api.ErrTwist, api.MaxText)
	refuses(t, strings.Repeat("x", api.MaxText), api.ErrKind, 0)
	refuses(t, strings.Repeat("x", api.MaxText+1), api.ErrText, 0)
}
