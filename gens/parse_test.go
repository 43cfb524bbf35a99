package gens_test

import (
	"strconv"
	"strings"
	"testing"

	"vivarium/api"
	"vivarium/gens"
)

// P9.1: texts that are read, and those that are not.

// brief is a text as a test tells it.
func brief(s string) string {
	if len(s) > 60 {
		return s[:30] + ".." + s[len(s)-20:]
	}
	return s
}

// reads looks at a text that tells a rule.
func reads(t *testing.T, s string, want api.Gens) {
	t.Helper()
	if g, at, e := gens.Parse(s); g != want || at != 0 || e != api.OK {
		t.Errorf("Parse(%q) = %v, %d, %d, not %v", brief(s), g, at, e, want)
	}
}

// refuses looks at a text that tells none.
func refuses(t *testing.T, s string, e api.Errno, at int) {
	t.Helper()
	if g, where, f := gens.Parse(s); g != (api.Gens{}) || where != at || f != e {
		t.Errorf("Parse(%q) = %v, %d, %d, not %d at %d", brief(s), g, where, f, e, at)
	}
}

// met counts what was answered.
type met map[api.Errno]int

// asModel looks whether a text is read as the model reads it.
func (m met) asModel(t *testing.T, s string) {
	t.Helper()
	want, wantAt, wantE := modelParse(s)
	m[wantE]++
	if g, at, e := gens.Parse(s); g != want || at != wantAt || e != wantE {
		t.Errorf("Parse(%q) = %v, %d, %d, not %v, %d, %d", brief(s), g, at, e, want, wantAt, wantE)
	}
}

// often looks whether each answer was met so many times.
func (m met) often(t *testing.T, least int) {
	t.Helper()
	for _, e := range []api.Errno{api.OK, api.ErrLife, api.ErrTwice, api.ErrCount, api.ErrGens} {
		if m[e] < least {
			t.Errorf("%d was answered %d times", e, m[e])
		}
	}
}

// everyText goes through all texts of at most so many of the letters behind a beginning.
func everyText(begin, letters string, most int, see func(string)) {
	see(begin)
	if most == 0 {
		return
	}
	for i := range len(letters) {
		everyText(begin+letters[i:i+1], letters, most-1, see)
	}
}

func TestParseOfAllShortTexts(t *testing.T) {
	seen := met{}
	see := func(s string) { seen.asModel(t, s) }
	everyText("", "BbSsVh/CcGg02389 x", 4, see)
	everyText("", "/0239Cx", 6, see)
	everyText("B", "/S39V", 6, see)
	everyText("b3/s", "/2C9h", 5, see)
	everyText("B5/SV", "/2C", 4, see)
	everyText("B2/S34H", "/0259CGx", 4, see)
	everyText("3/2/", "/01256cG x", 5, see)
	seen.often(t, 40)
}

// good are texts that may be, of all forms.
var good = []string{
	"B2/S345/C4", "b2/s543/04", "B2/S345/g4", "B2/S34H/5", "B/S/2", "b/s/c2", "B/SV/C256", "B13/S01234v/G003", "B6/Sh/g99",
	"B012345678/S876543210/0256", "345/2/4", "345/2/C4", "//2", "//g256", "012345678/876543210/c10", "/2/3", "3//G0004",
}

// TestParseWithEveryByteAtEveryPlace: each byte in the place of another, ahead of another, and at the end.
func TestParseWithEveryByteAtEveryPlace(t *testing.T) {
	seen := met{}
	for _, s := range good {
		for at := 0; at <= len(s); at++ {
			for b := range 256 {
				letter := string([]byte{byte(b)})
				seen.asModel(t, s[:at]+letter+s[at:])
				if at < len(s) {
					seen.asModel(t, s[:at]+letter+s[at+1:])
				}
			}
		}
	}
	seen.often(t, 50)
}

// TestParseWithoutSomeBytes: each piece taken out, so that the text ends early or something lacks.
func TestParseWithoutSomeBytes(t *testing.T) {
	seen := met{}
	for _, s := range good {
		for from := 0; from <= len(s); from++ {
			for to := from; to <= len(s); to++ {
				seen.asModel(t, s[:from]+s[to:])
			}
		}
	}
	if seen[api.OK] < 100 || seen[api.ErrLife] < 100 || seen[api.ErrGens] < 100 {
		t.Error(seen)
	}
}

// TestParseWithTwoFaults: any two of the faults at any two places.
func TestParseWithTwoFaults(t *testing.T) {
	seen := met{}
	faults := []string{"x", "3", "33", "9", "5", "V", "/", "//", "B", "C", "g", " ", "0", "999999999999999999999", "\x00"}
	for _, s := range []string{"B3/S23/C4", "B13/S04v/5", "3/26/g7", "//2", "B/SH/2"} {
		for i := 0; i <= len(s); i++ {
			for j := i; j <= len(s); j++ {
				for _, one := range faults {
					for _, two := range faults {
						seen.asModel(t, s[:i]+one+s[i:j]+two+s[j:])
					}
				}
			}
		}
	}
	seen.often(t, 50)
}

func TestParseOfTextsThatEndEarly(t *testing.T) {
	for n := range len("B13/S") {
		refuses(t, "B13/S"[:n], api.ErrLife, n)
	}
	for _, s := range []string{"B13/S", "B13/S0", "B13/S02V", "B13/S02V/", "B13/S02V/C", "B13/S02V/g", "B/S", "b/s/c", "02/13/", "02/13/G", "//", "//C"} {
		refuses(t, s, api.ErrGens, len(s))
	}
	for _, s := range []string{"", "0", "02", "02/", "02/1", "02/13", "/", "/1", "9", "9/9", "/9"} {
		refuses(t, s, api.ErrLife, len(s))
	}
}

// TestParseOfLettersReadsAheadOfTheSecondSlash: where that part ends the text of births and stays ends.
func TestParseOfLettersReadsAheadOfTheSecondSlash(t *testing.T) {
	refuses(t, "B//S23/4", api.ErrLife, 2)
	refuses(t, "B3//4", api.ErrLife, 3)
	refuses(t, "B//", api.ErrLife, 2)
	refuses(t, "B/", api.ErrLife, 2)
	refuses(t, "B3C4", api.ErrLife, 2)
	refuses(t, "B3/S2C4", api.ErrLife, 5)
	refuses(t, "B3/S2VV", api.ErrLife, 6)
	refuses(t, "B3/C4", api.ErrLife, 3)
	refuses(t, "B3/23/4", api.ErrLife, 3)
	refuses(t, "b3/S22/4", api.ErrTwice, 5)
	refuses(t, "B35/S2V/4", api.ErrCount, 2)
	refuses(t, "B35/S27h/4", api.ErrCount, 6)
	refuses(t, "B5/SV", api.ErrCount, 1) // ahead of the slash that lacks
	refuses(t, "S23/B3/4", api.ErrLife, 0)
	refuses(t, " B3/S23/4", api.ErrLife, 0)
	refuses(t, "C3/2/4", api.ErrLife, 0)
}

func TestParseOfListsTellsWhatIsNoDigit(t *testing.T) {
	for _, s := range []string{"x/2/4", "3x/2/4", "3x2/4", "3/x/4", "3/2x/4", "3/2x4", "3/2x", "3x", "3/Bx", "/x", "x//"} {
		refuses(t, s, api.ErrLife, strings.IndexAny(s, "xB"))
	}
	refuses(t, "3/2C/4", api.ErrLife, 3)
	refuses(t, "3/2V/4", api.ErrLife, 3)
	refuses(t, "3H/2/4", api.ErrLife, 1)
	refuses(t, "23/B3/4", api.ErrLife, 3)
	refuses(t, "3/2 /4", api.ErrLife, 3)
	refuses(t, "3-/2/4", api.ErrLife, 1)
	refuses(t, "٣/2/4", api.ErrLife, 0) // a digit of another script
}

func TestParseOfListsTellsDigitsThatStandTwice(t *testing.T) {
	for n := range 10 {
		d := strconv.Itoa(n)
		others := strings.ReplaceAll("0123456789", d, "")
		for _, end := range []string{"/4", "/", "", "x", "/x", "/999"} {
			refuses(t, d+d+"/"+end, api.ErrTwice, 1)
			refuses(t, "/"+d+d+end, api.ErrTwice, 2)
			refuses(t, d+others+d+"/"+end, api.ErrTwice, 10)
			refuses(t, "/"+d+others+d+end, api.ErrTwice, 11)
			refuses(t, d+d+end, api.ErrTwice, 1)
		}
		if n <= most[api.Moore] {
			reads(t, d+"/"+d+"/4", rule(api.Moore, d, d, 4)) // once in each list
		}
	}
	refuses(t, "12344321/2/4", api.ErrTwice, 4)
	reads(t, "3/2/22", rule(api.Moore, "2", "3", 22)) // the number is no list
}

func TestParseOfListsTellsTheFirstNine(t *testing.T) {
	for s, at := range map[string]int{"9/2/4": 0, "39/2/4": 1, "3/9/4": 2, "3/29/4": 3, "9/9/4": 0, "39/29/4": 1, "/9/2": 1, "0123456789/9876543210/2": 9, "/9876543210/C2": 1} {
		refuses(t, s, api.ErrCount, at)
		number := strings.LastIndexByte(s, '/') + 1
		for _, end := range []string{"", "x", "C", "1", "9", "257"} { // ahead of what is wrong with the number
			refuses(t, s[:number]+end, api.ErrCount, at)
		}
		refuses(t, s[:number-1], api.ErrLife, number-1) // behind all other faults of the lists
		refuses(t, s[:number-1]+"x/4", api.ErrLife, number-1)
	}
	reads(t, "3/2/9", rule(api.Moore, "2", "3", 9))
	reads(t, "3/2/99", rule(api.Moore, "2", "3", 99))
	refuses(t, "9/22/4", api.ErrTwice, 3)
	refuses(t, "99/2/4", api.ErrTwice, 1)
}

func TestParseOfListsTellsTheFirstFault(t *testing.T) {
	refuses(t, "33x/2/4", api.ErrTwice, 1)
	refuses(t, "3x3/2/4", api.ErrLife, 1)
	refuses(t, "3/22x/4", api.ErrTwice, 3)
	refuses(t, "3x/22/4", api.ErrLife, 1)
	refuses(t, "33/x", api.ErrTwice, 1)
	refuses(t, "33", api.ErrTwice, 1)
}

// TestParseOfListsInTheirOrder: the stays first.
func TestParseOfListsInTheirOrder(t *testing.T) {
	for n := range 9 {
		d := strconv.Itoa(n)
		reads(t, d+"//2", rule(api.Moore, "", d, 2))
		reads(t, "/"+d+"/2", rule(api.Moore, d, "", 2))
	}
	for _, l := range someLives(api.Moore) {
		reads(t, list(l.Stay)+"/"+list(l.Born)+"/7", api.Gens{Life: l, States: 7})
	}
	reads(t, "86753/1204/C12", rule(api.Moore, "0124", "35678", 12))
}

// heads are beginnings of all forms, up to the second slash, with their rules.
var heads = map[string]api.Gens{
	"B2/S345":  rule(api.Moore, "2", "345", 0),
	"b2/s543":  rule(api.Moore, "2", "345", 0),
	"B/S":      rule(api.Moore, "", "", 0),
	"B13/S04V": rule(api.Neumann, "13", "04", 0),
	"b31/s40v": rule(api.Neumann, "13", "04", 0),
	"B2/S36H":  rule(api.Hex, "2", "36", 0),
	"b2/S63h":  rule(api.Hex, "2", "36", 0),
	"345/2":    rule(api.Moore, "2", "345", 0),
	"/":        rule(api.Moore, "", "", 0),
}

// TestParseOfAllNumbers: from 2 to 256 read, all others refused at their first digit, with every letter and with noughts ahead.
func TestParseOfAllNumbers(t *testing.T) {
	for head, g := range heads {
		for _, letter := range forms {
			for _, noughts := range []string{"", "0", "000", strings.Repeat("0", 40)} {
				for n := range 600 {
					s := head + "/" + letter + noughts + strconv.Itoa(n)
					if n < 2 || n > 256 {
						refuses(t, s, api.ErrGens, len(head)+1+len(letter))
						continue
					}
					g.States = n
					reads(t, s, g)
				}
			}
		}
	}
}

// TestParseOfNumbersThatDontFit: those whose remainders by powers of two would be numbers of states too.
func TestParseOfNumbersThatDontFit(t *testing.T) {
	for _, number := range []string{
		"1000", "65540", "4294967300", "9223372036854775807", "9223372036854775808", "9223372036854775812", "18446744073709551616",
		"18446744073709551620", "99999999999999999999", "340282366920938463463374607431768211460", strings.Repeat("9", 5000),
	} {
		for head := range heads {
			for _, letter := range forms {
				at := len(head) + 1 + len(letter)
				refuses(t, head+"/"+letter+number, api.ErrGens, at)
				refuses(t, head+"/"+letter+"00"+number, api.ErrGens, at)
				refuses(t, head+"/"+letter+number+"x", api.ErrGens, at+len(number))
			}
		}
	}
}

// TestParseOfWhatStandsAtTheEnd: every byte behind the slash, behind a letter, and behind the number.
func TestParseOfWhatStandsAtTheEnd(t *testing.T) {
	for head, g := range heads {
		for b := range 256 {
			byteB := string([]byte{byte(b)})
			digit := '0' <= b && b <= '9'
			at := len(head) + 1
			g.States = 4
			switch {
			case strings.Contains("CcGg", byteB):
				reads(t, head+"/"+byteB+"4", g)
				refuses(t, head+"/"+byteB, api.ErrGens, at+1)
			case !digit:
				refuses(t, head+"/"+byteB+"4", api.ErrGens, at)
				refuses(t, head+"/"+byteB, api.ErrGens, at)
			}
			if !digit {
				refuses(t, head+"/C"+byteB+"4", api.ErrGens, at+1)
				refuses(t, head+"/4"+byteB, api.ErrGens, at+1)
				refuses(t, head+"/g04"+byteB+"2", api.ErrGens, at+3)
				refuses(t, head+"/1"+byteB, api.ErrGens, at+1) // ahead of how great it is
				continue
			}
			g.States = 20 + b - '0'
			reads(t, head+"/2"+byteB, g)
			reads(t, head+"/G2"+byteB, g)
		}
	}
}

func TestParseOfLongTexts(t *testing.T) {
	for head, g := range heads {
		for _, letter := range forms {
			begin := head + "/" + letter
			noughts := strings.Repeat("0", api.MaxText-len(begin)-1)
			g.States = 5
			reads(t, begin+noughts+"5", g)
			refuses(t, begin+noughts+"05", api.ErrText, 0)
			refuses(t, begin+noughts+"1", api.ErrGens, len(begin))
			refuses(t, begin+noughts+"x", api.ErrGens, api.MaxText-1)
			refuses(t, begin+noughts+"xx", api.ErrText, 0)
		}
		nines := strings.Repeat("9", api.MaxText-len(head)-1)
		refuses(t, head+"/"+nines, api.ErrGens, len(head)+1)
		refuses(t, head+"/9"+nines, api.ErrText, 0)
	}
	for begin, want := range map[string]struct {
		e  api.Errno
		at int
	}{
		"": {api.ErrLife, 0}, "B": {api.ErrLife, 1}, "3": {api.ErrLife, 1}, "3/2": {api.ErrLife, 3}, "B9/S3": {api.ErrLife, 5},
		"B3/S23/": {api.ErrGens, 7}, "33": {api.ErrTwice, 1}, "9/2/": {api.ErrCount, 0},
	} {
		fill := strings.Repeat("x", api.MaxText+1-len(begin))
		refuses(t, begin+fill[1:], want.e, want.at)
		refuses(t, begin+fill, api.ErrText, 0)
	}
}
