package table_test

import (
	"strings"
	"testing"

	"vivarium/api"
)

// P10.2: texts of all kinds, as Parse and as the model read them.

// met counts what was answered.
type met map[api.Errno]int

// asModel looks whether a text is read as the model reads it.
func (m met) asModel(t *testing.T, text string) {
	t.Helper()
	want, wantF := modelParse(text)
	m[wantF.code]++
	if k, f, isNil := parse(text); f != wantF || isNil != (wantF == well) || !same(k, want) {
		t.Errorf("Parse(%q) = %v, %v, not %v, %v", brief(text), k, f, want, wantF)
	}
}

// often looks whether each of the answers was met so many times.
func (m met) often(t *testing.T, least int, codes ...api.Errno) {
	t.Helper()
	for _, e := range codes {
		if m[e] < least {
			t.Errorf("%d was answered %d times", e, m[e])
		}
	}
}

// anyFault are the codes of what can be wrong with a short text, and none.
var anyFault = []api.Errno{api.OK, api.ErrLine, api.ErrStates, api.ErrNear, api.ErrSymmetry, api.ErrState, api.ErrVar, api.ErrTrans}

// good are texts that may be, of all forms.
var good = []string{
	four,
	"# so\n n_states : 003 \n\t\nneighborhood:vonNeumann\r\nsymmetries: rotate4\nvar a = { 1 , 0,1}\n# more\n01aaa2",
	"n_states:2\nneighborhood:hexagonal\nsymmetries:rotate6reflect\nvar v={0}\nvar vv={v,1}\nvv,v,0,1,0,1,v,vv\nv0v0v0v1\n",
	"n_states:10\nneighborhood:Moore\nsymmetries:rotate8\n0,1,2,3,4,5,6,7,8,9\n9876543210\n",
	"n_states:256\nneighborhood:Moore\nsymmetries:permute\nvar b-1 = {255}\nb-1,0,0,0,0,255,254,9,10,b-1",
	"n_states:4\nneighborhood:vonNeumann\nsymmetries:none\nvar a={1,2}\nvar b={a,3}\n0ab12b\nvar c={0,b}\ncabcba",
}

func TestGoodTextsAreRead(t *testing.T) {
	seen := met{}
	for _, text := range good {
		seen.asModel(t, text)
	}
	if seen[api.OK] != len(good) {
		t.Error(seen)
	}
}

// TestParseWithEveryByteAtEveryPlace: each byte in the place of another, ahead of another, and at the end.
func TestParseWithEveryByteAtEveryPlace(t *testing.T) {
	t.Parallel()
	seen := met{}
	for _, text := range good {
		for at := 0; at <= len(text); at++ {
			for b := range 256 {
				letter := string([]byte{byte(b)})
				seen.asModel(t, text[:at]+letter+text[at:])
				if at < len(text) {
					seen.asModel(t, text[:at]+letter+text[at+1:])
				}
			}
		}
	}
	seen.often(t, 300, anyFault...)
}

// TestParseWithoutSomeBytes: each piece taken out, so that the text ends early or something lacks.
func TestParseWithoutSomeBytes(t *testing.T) {
	t.Parallel()
	seen := met{}
	for _, text := range good {
		for from := range text {
			for to := from; to <= len(text); to++ {
				seen.asModel(t, text[:from]+text[to:])
			}
		}
	}
	seen.often(t, 20, anyFault...)
}

// TestParseWithTwoFaults: any two of the faults at any two places of a text.
func TestParseWithTwoFaults(t *testing.T) {
	t.Parallel()
	seen := met{}
	wrong := []string{"x", "3", ",", "\n", " ", "var", "99999999999999999999", "{", "#"}
	for _, text := range []string{four, "n_states:4\nneighborhood:vonNeumann\nsymmetries:none\n0123x0"} {
		for i := 0; i <= len(text); i++ {
			for j := i; j <= len(text); j++ {
				for n := range wrong {
					seen.asModel(t, text[:i]+wrong[n]+text[i:j]+wrong[(n+i+j)%len(wrong)]+text[j:])
				}
			}
		}
	}
	seen.often(t, 50, anyFault[1:]...)
}

// everyText goes through all texts of at most so many of the letters behind a beginning.
func everyText(begin string, letters []string, most int, see func(string)) {
	see(begin)
	if most == 0 {
		return
	}
	for _, letter := range letters {
		everyText(begin+letter, letters, most-1, see)
	}
}

func TestParseOfAllShortTexts(t *testing.T) {
	t.Parallel()
	seen := met{}
	see := func(text string) { seen.asModel(t, text) }
	everyText("", []string{"n_states", "neighborhood", ":", "3", " ", "\n", "#", "x"}, 5, see)
	everyText("n_states:2\nneighborhood:Moore\n", []string{"symmetries", ":", "none", "rotate2", " ", "\n", "."}, 5, see)
	seen.often(t, 1, api.OK)
	seen.often(t, 20, api.ErrLine, api.ErrStates, api.ErrSymmetry)
	seen = met{}
	everyText(four, []string{"var", " ", "b", "=", "{", "0", "a", ",", "}"}, 5, see)
	everyText(four+"var b={", []string{"0", "3", "a", "c", ",", "}", " "}, 5, see)
	everyText(four, []string{"0", "3", "a", "b", ",", " ", "-"}, 5, see)
	everyText(four+"0,a,0", []string{"0", "a", "aa", ",", ",1", ",a"}, 5, see)
	everyText(four+"var b={2}\n0", []string{"0", "3", "a", "b", "c"}, 6, see)
	everyText(four, []string{"\n", "\r", "\t", "#", "0", "01aaa2"}, 5, see)
	seen.often(t, 50, api.OK, api.ErrLine, api.ErrState, api.ErrVar, api.ErrTrans)
}

// TestParseOfTablesByChance: texts with all kinds of lines, each wrong now and then.
func TestParseOfTablesByChance(t *testing.T) {
	t.Parallel()
	seen := met{}
	d := dice(10)
	for range 20000 {
		seen.asModel(t, d.text())
	}
	seen.often(t, 60, anyFault...)
}

// one of the texts.
func (d *dice) one(texts ...string) string { return texts[d.below(len(texts))] }

// text is a table's text, or nearly.
func (d *dice) text() string {
	h := hoods[d.below(3)]
	var b strings.Builder
	line := func(parts ...string) {
		for i, part := range parts {
			if i > 0 {
				b.WriteString(d.one("", "", "", " ", "\t"))
			}
			b.WriteString(part)
		}
		b.WriteString(d.one("\n", "\n", "\n", "\r\n", " \n", "\n\n", "\n# so\n", "\n", "\n", "\n", "\n", d.one("\n", "\r \n")))
	}
	line("n_states", ":", d.one("3", "3", "4", "04", "12", "12", "256", "2", "257", "1"))
	line("neighborhood", ":", d.one(hoodWord[h], hoodWord[h], hoodWord[h], "Hex", "vonNeumann"))
	line("symmetries", ":", d.one("none", "none", "permute", symmetries[uint8(d.below(11))].word))
	for i := range d.below(12) {
		if i < 2 || d.below(8) == 0 {
			line("var ", d.one("abcde"[i%5:i%5+1], "abcde"[i%5:i%5+1], "a1", "var1", "var", "b"), "=", "{", d.terms(1+d.below(4), ","), d.one("}", "}", "}", "}", "}", "}", "}", "}", "", "},", "} 1"))
			continue
		}
		line(d.terms(sizes[h]+2+d.below(20)/19, d.one(",", "", " , ", ",")))
	}
	return b.String()
}

// terms are so many terms with a text between.
func (d *dice) terms(n int, between string) string {
	list := make([]string, n)
	for i := range list {
		list[i] = d.one("0", "1", "0", "1", "0", "1", "0", "1", "2", "0", "1", "0", "1", "2", "a", "a", "b")
		if d.below(150) == 0 {
			list[i] = d.one("3", "c", "a1", "", "-", "02", "10", "300", "var1")
		}
	}
	return strings.Join(list, between)
}
