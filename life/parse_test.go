package life_test

import (
	"strings"
	"testing"

	"vivarium/api"
	"vivarium/life"
)

// P8.1: texts that are read, and those that are not.

// brief is a text as a test tells it.
func brief(s string) string {
	if len(s) > 60 {
		return s[:30] + ".." + s[len(s)-20:]
	}
	return s
}

// reads looks at a text that tells a rule.
func reads(t *testing.T, s string, want api.Life) {
	t.Helper()
	if l, at, e := life.Parse(s); l != want || at != 0 || e != api.OK {
		t.Errorf("Parse(%q) = %v, %d, %d, not %v", brief(s), l, at, e, want)
	}
}

// refuses looks at a text that tells none.
func refuses(t *testing.T, s string, e api.Errno, at int) {
	t.Helper()
	if l, where, f := life.Parse(s); l != (api.Life{}) || where != at || f != e {
		t.Errorf("Parse(%q) = %v, %d, %d, not %d at %d", brief(s), l, where, f, e, at)
	}
}

// met counts what was answered.
type met map[api.Errno]int

// asModel looks whether a text is read as the model reads it.
func (m met) asModel(t *testing.T, s string) {
	t.Helper()
	want, wantAt, wantE := modelParse(s)
	m[wantE]++
	if l, at, e := life.Parse(s); l != want || at != wantAt || e != wantE {
		t.Errorf("Parse(%q) = %v, %d, %d, not %v, %d, %d", brief(s), l, at, e, want, wantAt, wantE)
	}
}

// often looks whether each answer was met so many times.
func (m met) often(t *testing.T, least int) {
	t.Helper()
	for _, e := range []api.Errno{api.OK, api.ErrLife, api.ErrTwice, api.ErrCount} {
		if m[e] < least {
			t.Errorf("%d was answered %d times", e, m[e])
		}
	}
}

// everyText goes through all texts of at most so many of the letters behind a beginning.
func everyText(begin, letters string, most int, see func(string)) {
	see(begin)
	if most == 0 {
		return
	}
	for i := range len(letters) {
		everyText(begin+letters[i:i+1], letters, most-1, see)
	}
}

func TestParseOfAllShortTexts(t *testing.T) {
	seen := met{}
	see := func(s string) { seen.asModel(t, s) }
	everyText("", "BbSs/VvHh04579 x", 4, see)
	everyText("B", "/S3459Vh", 5, see)
	everyText("b7/", "sS0689vHx", 4, see)
	everyText("B09/S", "045679VH/", 4, see)
	seen.often(t, 40)
}

// good are texts that may be, of all forms.
var good = []string{
	"B/S", "b/s", "B/SV", "B/sh", "B3/S23", "b3/s32", "B0/S8", "B8/S0", "B012345678/S012345678", "B876543210/s",
	"B13/S01234V", "b43210/S01234v", "B2/S34H", "B0123456/S6543210h", "B/S5", "B1/S", "B368/S245",
}

// TestParseWithEveryByteAtEveryPlace: each byte in the place of another, ahead of another, and at the end.
func TestParseWithEveryByteAtEveryPlace(t *testing.T) {
	seen := met{}
	for _, s := range good {
		for at := 0; at <= len(s); at++ {
			for b := range 256 {
				letter := string([]byte{byte(b)})
				seen.asModel(t, s[:at]+letter+s[at:])
				if at < len(s) {
					seen.asModel(t, s[:at]+letter+s[at+1:])
				}
			}
		}
	}
	seen.often(t, 100)
}

// TestParseWithoutSomeBytes: each piece taken out, so that the text ends early or something lacks.
func TestParseWithoutSomeBytes(t *testing.T) {
	seen := met{}
	for _, s := range good {
		for from := 0; from <= len(s); from++ {
			for to := from; to <= len(s); to++ {
				seen.asModel(t, s[:from]+s[to:])
			}
		}
	}
	if seen[api.OK] < 100 || seen[api.ErrLife] < 100 {
		t.Error(seen)
	}
}

// TestParseWithTwoFaults: any two of the faults at any two places; the first one counts, but for digits that are too great.
func TestParseWithTwoFaults(t *testing.T) {
	seen := met{}
	faults := []string{"x", "3", "33", "9", "5", "7", "V", "h", "/", "B", " ", "\x00"}
	for _, s := range []string{"B3/S23", "B13/S04V", "B2/S36h", "B/S"} {
		for i := 0; i <= len(s); i++ {
			for j := i; j <= len(s); j++ {
				for _, one := range faults {
					for _, two := range faults {
						seen.asModel(t, s[:i]+one+s[i:j]+two+s[j:])
					}
				}
			}
		}
	}
	seen.often(t, 50)
}

func TestParseTellsWhatCantStand(t *testing.T) {
	for _, s := range []string{"x3/S23", "Bx/S23", "B3xS23", "B3/x23", "B3/Sx3", "B3/S2x", "B3/S23x", "B3/S23Vx", "B3/S23hx"} {
		refuses(t, s, api.ErrLife, strings.Index(s, "x"))
	}
	refuses(t, "BB3/S23", api.ErrLife, 1)
	refuses(t, "B3//S23", api.ErrLife, 3)
	refuses(t, "B3/SS23", api.ErrLife, 4)
	refuses(t, "B3/S23/", api.ErrLife, 6)
	refuses(t, "B3/S23/4", api.ErrLife, 6)
	refuses(t, "B3V/S23", api.ErrLife, 2)
	refuses(t, "B3/S23\n", api.ErrLife, 6)
	refuses(t, " B3/S23", api.ErrLife, 0)
	refuses(t, "23/3", api.ErrLife, 0)
	refuses(t, "B3OS23", api.ErrLife, 2) // a small letter's distance behind the slash
	refuses(t, "B3/S2H3", api.ErrLife, 6)
	refuses(t, "B3/S23é", api.ErrLife, 6)
	refuses(t, "B٣/S", api.ErrLife, 1) // a digit of another script
}

func TestParseOfTextsThatEndEarly(t *testing.T) {
	for _, s := range []string{"B13/S01234V", "b876543210/s", "B/S"} {
		for n := range strings.IndexAny(s, "Ss") + 1 {
			refuses(t, s[:n], api.ErrLife, n)
		}
	}
}

func TestParseTellsDigitsThatStandTwice(t *testing.T) {
	for n := range 10 {
		d := string([]byte{'0' + byte(n)})
		others := strings.ReplaceAll("0123456789", d, "")
		refuses(t, "B"+d+d+"/S", api.ErrTwice, 2)
		refuses(t, "B/S"+d+d, api.ErrTwice, 4)
		refuses(t, "B"+d+others+d+"/S", api.ErrTwice, 11)
		refuses(t, "B/S"+d+others+d+"V", api.ErrTwice, 13)
		refuses(t, "B"+d+d, api.ErrTwice, 2)
		refuses(t, "B"+d+d+"x", api.ErrTwice, 2)
		refuses(t, "B"+d+"/S"+d+d+"x", api.ErrTwice, 5)
		if n <= most[api.Moore] {
			reads(t, "B"+d+"/S"+d, rule(api.Moore, []int{n}, []int{n})) // once in each list
		}
	}
	refuses(t, "B12344321/S", api.ErrTwice, 5)
}

func TestParseTellsCountsThatAreTooGreat(t *testing.T) {
	for _, h := range all {
		for _, end := range ends[h] {
			for n := range 10 {
				d := string([]byte{'0' + byte(n)})
				if n <= most[h] {
					reads(t, "B"+d+"/S"+end, rule(h, []int{n}, nil))
					reads(t, "B/S"+d+end, rule(h, nil, []int{n}))
					continue
				}
				refuses(t, "B"+d+"/S"+end, api.ErrCount, 1)
				refuses(t, "B/S"+d+end, api.ErrCount, 3)
				refuses(t, "B0"+d+"1/S32"+d+end, api.ErrCount, 2)
				refuses(t, "B01/S32"+d+end, api.ErrCount, 7)
			}
		}
	}
	refuses(t, "B98/S9", api.ErrCount, 1)
	reads(t, "B75/S", rule(api.Moore, []int{5, 7}, nil)) // too great under the letters alone
	refuses(t, "B75/SV", api.ErrCount, 1)
	refuses(t, "B57/SH", api.ErrCount, 2)
}

func TestParseTellsCountsLast(t *testing.T) {
	refuses(t, "B9", api.ErrLife, 2)
	refuses(t, "B9/S2x", api.ErrLife, 5)
	refuses(t, "B9/S22", api.ErrTwice, 5)
	refuses(t, "B99/S", api.ErrTwice, 2)
	refuses(t, "B5/S2VV", api.ErrLife, 6)
	refuses(t, "B7/S33H", api.ErrTwice, 5)
	refuses(t, "B5/S6Vx", api.ErrLife, 6)
	refuses(t, "B3x/S22", api.ErrLife, 2) // of the other two the first one
	refuses(t, "B33x/S", api.ErrTwice, 2)
}

func TestParseOfAllTenDigits(t *testing.T) {
	ten := "0123456789"
	for _, h := range all {
		for _, end := range ends[h] {
			refuses(t, "B"+ten+"/S"+end, api.ErrCount, 1+most[h]+1)
			refuses(t, "B/S"+ten+end, api.ErrCount, 3+most[h]+1)
			refuses(t, "B9876543210/S"+ten+end, api.ErrCount, 1)
			refuses(t, "B"+ten+"0/S"+end, api.ErrTwice, 11)
			refuses(t, "B"+ten+"x/S"+end, api.ErrLife, 11)
			kept := ten[:most[h]+1]
			reads(t, "B"+kept+"/S"+kept+end, rule(h, numbers(kept), numbers(kept)))
			reads(t, "B/S"+end, rule(h, nil, nil))
		}
	}
}

// orders are all orders of a text's letters.
func orders(s string) []string {
	if s == "" {
		return []string{""}
	}
	var list []string
	for i := range len(s) {
		for _, rest := range orders(s[:i] + s[i+1:]) {
			list = append(list, s[i:i+1]+rest)
		}
	}
	return list
}

func TestParseOfDigitsInAnyOrder(t *testing.T) {
	counts := []int{0, 1, 2, 3, 4}
	for _, h := range all {
		for _, list := range orders("01234") {
			reads(t, "B"+list+"/S"+ends[h][0], rule(h, counts, nil))
			reads(t, "b/s"+list+ends[h][0], rule(h, nil, counts))
			reads(t, "B40/S"+list+ends[h][0], rule(h, []int{0, 4}, counts))
		}
	}
}

func TestParseOfSmallAndGreatLetters(t *testing.T) {
	for _, h := range all {
		for _, b := range []string{"B", "b"} {
			for _, s := range []string{"S", "s"} {
				for _, end := range ends[h] {
					reads(t, b+"13/"+s+"024"+end, rule(h, []int{1, 3}, []int{0, 2, 4}))
				}
			}
		}
	}
}

// TestParseKnowsItsLetters: every byte at each place where a letter or the slash stands.
func TestParseKnowsItsLetters(t *testing.T) {
	for b := range 256 {
		letter := string([]byte{byte(b)})
		for at, may := range map[string]string{"": "Bb", "B": "/", "B/": "Ss"} {
			s := at + letter + "B/S"[len(at)+1:]
			switch {
			case strings.Contains(may, letter):
				reads(t, s, rule(api.Moore, nil, nil))
			case at == "B" && isDigit(b):
				refuses(t, s, api.ErrLife, 2) // the slash lacks behind it
			default:
				refuses(t, s, api.ErrLife, len(at))
			}
		}
	}
}

// TestParseKnowsItsEnds: every byte where a neighbourhood's letter may stand.
func TestParseKnowsItsEnds(t *testing.T) {
	for b := range 256 {
		s := "B/S" + string([]byte{byte(b)})
		switch h := hoodOf(s[3:]); {
		case h != 0:
			reads(t, s, rule(h, nil, nil))
		case b == '9':
			refuses(t, s, api.ErrCount, 3)
		case isDigit(b):
			reads(t, s, rule(api.Moore, nil, []int{b - '0'}))
		default:
			refuses(t, s, api.ErrLife, 3)
		}
	}
}

func isDigit(b int) bool { return '0' <= b && b <= '9' }

func TestParseOfLongTexts(t *testing.T) {
	for begin, want := range map[string]struct {
		e  api.Errno
		at int
	}{
		"":                          {api.ErrLife, 0},
		"B3/S23":                    {api.ErrLife, 6},
		"B0123456789/S0123456789":   {api.ErrLife, 23},
		"B0123456789/S0123456789h":  {api.ErrLife, 24},
		"B0123456789/S01234567899h": {api.ErrTwice, 23},
		"B":                         {api.ErrLife, 1},
	} {
		fill := strings.Repeat("x", api.MaxText+1-len(begin))
		refuses(t, begin+fill[1:], want.e, want.at)
		refuses(t, begin+fill, api.ErrText, 0)
	}
	noughts := strings.Repeat("0", api.MaxText)
	refuses(t, noughts, api.ErrLife, 0)
	refuses(t, noughts+"0", api.ErrText, 0)
	refuses(t, "B"+noughts[1:], api.ErrTwice, 2)
	refuses(t, "B"+noughts, api.ErrText, 0)
	refuses(t, "B3/S23"+noughts[6:], api.ErrTwice, 7)
	refuses(t, "B3/S23"+noughts, api.ErrText, 0)
}
