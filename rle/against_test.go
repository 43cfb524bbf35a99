package rle_test

import (
	"strings"
	"testing"

	"vivarium/api"
)

// P22.1: texts of all kinds, as Read and as the model read them.

// met counts what was answered.
type met map[api.Errno]int

// asModel looks whether a text is read as the model reads it.
func (m met) asModel(t *testing.T, text string) {
	t.Helper()
	want, wantF := modelRead(text)
	m[wantF.code]++
	if d, f, isNil := told(text); f != wantF || isNil != (wantF == well) || !same(d, want) {
		t.Errorf("Read(%q) = %v, %v, not %v, %v", brief(text), short(d), f, short(want), wantF)
	}
}

// often looks whether each of the answers was met so many times.
func (m met) often(t *testing.T, least int, codes ...api.Errno) {
	t.Helper()
	for _, e := range codes {
		if m[e] < least {
			t.Errorf("%d was answered %d times", e, m[e])
		}
	}
}

// anyFault are the codes of what can be wrong with a short text, and none.
var anyFault = []api.Errno{api.OK, api.ErrFar, api.ErrRange, api.ErrEarly, api.ErrTag, api.ErrHead, api.ErrBody, api.ErrExtra}

// goodTexts are texts that may be, of all forms.
var goodTexts = []string{
	"x = 3, y = 3, rule = B3/S23:T30,20\nbo$2bo$3o!",
	"#CXRLE Pos=-2,5 Gen=7\n#N glider\n \t\nx = 3, y = 3, rule = B3/S23:T30,20 \t\r\nbo$ 2bo\n$\r\n3o !o",
	"x=1,y=1\no!",
	"  x\t= 02 ,y =1  ,rule=a, b = c\nyO.!",
	"#C\r\n\r\n#CXRLE\tGen=1125899906842624\nx=1099511627776,y=1099511627776,rule =r\n1099511627775$1099511627774bpA2$!",
	"x=9,y=9,rule=\x00=,x\n3.2A$\t4B3$.pA.qX 9b!x\n!",
}

func TestGoodTextsAreRead(t *testing.T) {
	seen := met{}
	for _, text := range goodTexts {
		seen.asModel(t, text)
	}
	if seen[api.OK] != len(goodTexts) {
		t.Error(seen)
	}
}

// TestReadWithEveryByteAtEveryPlace: each byte in the place of another, ahead of another, and at the end.
func TestReadWithEveryByteAtEveryPlace(t *testing.T) {
	t.Parallel()
	seen := met{}
	for _, text := range goodTexts {
		for at := 0; at <= len(text); at++ {
			for b := range 256 {
				letter := string([]byte{byte(b)})
				seen.asModel(t, text[:at]+letter+text[at:])
				if at < len(text) {
					seen.asModel(t, text[:at]+letter+text[at+1:])
				}
			}
		}
	}
	seen.often(t, 30, anyFault...)
}

// TestReadWithoutSomeBytes: each piece taken out, so that the text ends early or something lacks.
func TestReadWithoutSomeBytes(t *testing.T) {
	t.Parallel()
	seen := met{}
	for _, text := range goodTexts {
		for from := 0; from <= len(text); from++ {
			for to := from; to <= len(text); to++ {
				seen.asModel(t, text[:from]+text[to:])
				seen.asModel(t, text[from:to])
			}
		}
	}
	seen.often(t, 30, api.OK, api.ErrEarly, api.ErrTag, api.ErrHead, api.ErrBody, api.ErrExtra)
}

// textPieces are those of which texts are put together by chance: ahead of the head, of the head, of the body.
var textPieces = [3][]string{
	{"#", "#CXRLE", " ", "\n", "\n", "\t", "\r\n", "Pos=1,2", "Gen=3", " Pos=-4,05", " Gen=0", "Pos=", "Gen=", "#C so\n", "1", ",", "-"},
	{"x", "=", "1", ",", "y", "rule", " ", "\t", "x = 4", "x=9,", ", y = 5", "y=3", ", rule = r", ",rule=", "\n", "\r\n", "\r", "1099511627777", "0", "1099511627776", "B3/S23"},
	{"o", "b", "2", "$", "!", ".", "A", "pB", "yO", "3o", "2$", "\n", " ", "0", "p", "z", "12", "1099511627776b"},
}

// text is a text that may well be read: of each part either a form that may be, or pieces.
func (d *dice) text() string {
	text := ""
	for part, pieces := range textPieces {
		usual := [3][]string{
			{"", "", "#C so\n", "#CXRLE Pos=1,-2\n", "#CXRLE Gen=3 Pos=0,0 \n\n"},
			{"x = 9, y = 4\n", "x=9,y=4,rule=r:T\r\n", " x = 3,y = 3, rule = a b \t\n"},
			{"o!", "bo$2bo$3o!", "2.B3$pA!", "9b$o!", "2o2$!"},
		}[part]
		if d.below(4) > 0 {
			text += one(d, usual)
			continue
		}
		for range d.below(8) {
			text += one(d, pieces)
		}
	}
	for range d.below(2) * d.below(3) {
		at := d.below(len(text) + 1)
		text = text[:at] + one(d, textPieces[d.below(3)]) + text[at:]
	}
	return text
}

func TestReadOfTextsByChance(t *testing.T) {
	t.Parallel()
	seen := met{}
	d := dice(51)
	for range 200000 {
		seen.asModel(t, d.text())
	}
	seen.often(t, 300, anyFault...)
}

// TestReadOfShortLines: each short line of some letters as the head, or ahead of it.
func TestReadOfShortLines(t *testing.T) {
	t.Parallel()
	seen := met{}
	for _, frame := range []string{"@", "#@\nx=1,y=1\n!", "#CXRLE@\nx=1,y=1\n!", "#CXRLE Pos@ Gen=1\nx=1,y=1\n!", "x@1,y=1\n!", "x=@,y=1\n!", "x=1@=1\n!", "x=1,y=1@\n!", "x=1,y=1,rule@\n!", "x=1,y=1\n@", "x=1,y=1\n@!"} {
		every("x=1, \r#", 4, func(line string) { seen.asModel(t, strings.Replace(frame, "@", line, 1)) })
	}
	for _, frame := range []string{"#CXRLE Pos=@ Gen=1\nx=1,y=1\n!", "#CXRLE Gen=@\nx=1,y=1\n!"} {
		every("-10, ", 5, func(line string) { seen.asModel(t, strings.Replace(frame, "@", line, 1)) })
	}
	every("2bo$! ", 5, func(body string) { seen.asModel(t, "x=2,y=2\n"+body+"!") })
	seen.often(t, 50, api.OK, api.ErrEarly, api.ErrTag, api.ErrHead, api.ErrBody, api.ErrExtra)
}
