package plain_test

import (
	"slices"
	"strings"
	"testing"

	"vivarium/api"
	"vivarium/plain"
)

// P23.2: reading.

func TestReadOfEachSign(t *testing.T) {
	for sign, s := range signs() {
		text := string(sign)
		want := []api.Cell{cell(0, 0, s)}
		if s == 0 {
			want = nil
		}
		reads(t, text, want...)
		reads(t, "!\n"+text+"\r\n", want...)
		reads(t, ".O\n.."+text+text, append([]api.Cell{cell(1, 0, 1)}, moved(append(want, moved(want, 1, 0)...), 2, 1)...)...)
	}
}

func TestReadOfOneRow(t *testing.T) {
	var row []rune
	var want []api.Cell
	for s := range 256 {
		row = append(row, plain.Sign(uint8(s)))
		if s > 0 {
			want = append(want, cell(s, 0, uint8(s)))
		}
	}
	reads(t, string(row), want...)
	slices.Reverse(row)
	for i := range want {
		want[i].X = 255 - want[i].X
	}
	slices.Reverse(want)
	reads(t, string(row), want...)
}

// TestReadCountsRunes: a cell's number is that of its rune, not of its byte.
func TestReadCountsRunes(t *testing.T) {
	reads(t, "\u2802O\u28ffO\n\u2803.\u2804", cell(0, 0, 2), cell(1, 0, 1), cell(2, 0, 255), cell(3, 0, 1), cell(0, 1, 3), cell(2, 1, 4))
	reads(t, strings.Repeat("\u2805", 100)+".O", append(line(0, 0, 100, 5), cell(101, 0, 1))...)
}

func TestReadOfNothing(t *testing.T) {
	for _, text := range []string{"", "\n", "\r", "\r\n", "\n\n\n", "!", "!\n", ".", " ", "_", "._ \n\n.", "!O\n!O", strings.Repeat("\n", api.MaxText)} {
		reads(t, text)
	}
}

// TestReadOfEmptyRows: a row without cells counts as one.
func TestReadOfEmptyRows(t *testing.T) {
	for n := range 5 {
		for _, end := range []string{"\n", "\r\n"} {
			reads(t, strings.Repeat(end, n)+"O", cell(0, n, 1))
			reads(t, "O"+end+strings.Repeat(end, n)+"O"+strings.Repeat(end, n), cell(0, 0, 1), cell(0, n+1, 1))
			reads(t, strings.Repeat("."+end, n)+strings.Repeat(end, n)+".O", cell(1, 2*n, 1))
		}
	}
}

// TestReadOfLineEnds: of a line's bytes 13 the last one alone is no rune of the row.
func TestReadOfLineEnds(t *testing.T) {
	reads(t, "O\r\nO\r", cell(0, 0, 1), cell(0, 1, 1))
	reads(t, "O\nO\r\n", cell(0, 0, 1), cell(0, 1, 1))
	refuses(t, "O\rO", api.ErrRune, 1)
	refuses(t, "\rO", api.ErrRune, 0)
	refuses(t, "O\r\r\nO", api.ErrRune, 1)
	refuses(t, "O\r\r", api.ErrRune, 1)
	refuses(t, "O\n\r\r\n", api.ErrRune, 2)
	refuses(t, "O\n\r\rO", api.ErrRune, 2)
	for _, other := range []string{"\v", "\f", "\u0085", "\u2028", "\u2029"} {
		refuses(t, "O"+other+"O", api.ErrRune, 1)
	}
}

// TestReadOfRemarks: they are no rows, whatever stands in them.
func TestReadOfRemarks(t *testing.T) {
	for _, remark := range []string{"!", "!!", "! ", "!O", "!x", "!\xff", "!\x00\r\r", "!\r", "!\u2802\u2801", "!" + strings.Repeat("é", 1000)} {
		reads(t, remark)
		reads(t, remark+"\n")
		for _, end := range []string{"\n", "\r\n"} {
			reads(t, remark+end+"O", cell(0, 0, 1))
			reads(t, remark+end+remark+end+"O"+end+remark+end+"O"+end+remark, cell(0, 0, 1), cell(0, 1, 1))
			reads(t, "O"+end+end+remark+end+end+"O", cell(0, 0, 1), cell(0, 3, 1))
			refuses(t, remark+end+".x", api.ErrRune, len(remark+end)+1)
		}
	}
}

// TestReadOfRemarksThatAreNone: the sign of a remark stands at a line's beginning alone.
func TestReadOfRemarksThatAreNone(t *testing.T) {
	refuses(t, ".!", api.ErrRune, 1)
	refuses(t, " !", api.ErrRune, 1)
	refuses(t, "\r!", api.ErrRune, 0)
	refuses(t, "\u2802!", api.ErrRune, 3)
	refuses(t, "!\n.!", api.ErrRune, 3)
	refuses(t, "\n !a\n", api.ErrRune, 2)
	refuses(t, "\ufeff!", api.ErrRune, 0)
	refuses(t, "\u00a1", api.ErrRune, 0)
}

// TestReadOfEachByte: alone, and in the midst of others. None but the seven is a sign; line ends are none either.
func TestReadOfEachByte(t *testing.T) {
	list := signs()
	for b := range 256 {
		text := string([]byte{byte(b)})
		s, is := list[rune(b)]
		switch {
		case is && s == 0 || b == 10 || b == 13 || b == '!':
			reads(t, text)
		case is:
			reads(t, text, cell(0, 0, s))
		default:
			refuses(t, text, api.ErrRune, 0)
		}
		if !is && b != 10 {
			refuses(t, "..\n\u2802"+text+"..", api.ErrRune, 6)
			refuses(t, "!\xff\r\n\r\n."+text+text+"x\n", api.ErrRune, 7)
		}
	}
}

// TestReadOfRunesBesideTheSigns: the place of one is that of its first byte.
func TestReadOfRunesBesideTheSigns(t *testing.T) {
	list := signs()
	for sign := rune(128); sign < 0x11000; sign++ {
		if _, is := list[sign]; is || sign >= 0xd800 && sign < 0xe000 {
			continue
		}
		refuses(t, "\u2802."+string(sign)+"O", api.ErrRune, 4)
	}
	for _, sign := range []rune{0x12802, 0x102802, 0x1f7e6, 0x10ffff, 0xfffd} {
		refuses(t, string(sign), api.ErrRune, 0)
		refuses(t, "\n\u28ff"+string(sign), api.ErrRune, 4)
	}
}

// TestReadOfBytesThatAreNoRune: a byte that is part of no rune is no sign, though it would be part of one with others.
func TestReadOfBytesThatAreNoRune(t *testing.T) {
	for _, piece := range []string{
		"\xff", "\xfe", "\x80", "\xbf", "\xc0\xae", "\xe0\x80\xae", "\xf0\x80\x80\xae", "\xc1\x8f", // longer than they may be
		"\xe2", "\xe2\xa0", "\xa0\x82", "\xe2\n\xa0\x82", "\xe2\xa0\n\x82", "\xe2\xa0\r\n\x82", "\xe2O\xa0\x82", // a sign in pieces
		"\xed\xa0\x82", "\xf0\x82\xa0\x82", "\xf4\x90\x80\x80", "\xf8\x80\x80\x80\x80",
	} {
		refuses(t, piece, api.ErrRune, 0)
		refuses(t, "O.\n"+piece+".", api.ErrRune, 3)
		refuses(t, "!"+piece[:1]+"\n\u2802\u2803"+piece+"x", api.ErrRune, 9)
	}
	refuses(t, "\u2802\xe2\xa0", api.ErrRune, 3)
	refuses(t, "\u2802\x82", api.ErrRune, 3)
	reads(t, "\xe2\xa0\x82\xe2\xa3\xbf", cell(0, 0, 2), cell(1, 0, 255))
}

// TestReadOfSeveralFaults: the first one counts, and no cell is told beside it.
func TestReadOfSeveralFaults(t *testing.T) {
	refuses(t, "OOx..y", api.ErrRune, 2)
	refuses(t, "OO\nOx\ny", api.ErrRune, 4)
	refuses(t, "O\r\nO\r\n\u2802\u2802\r\rz", api.ErrRune, 12)
	refuses(t, "O\nO\n!\n!x\nOz\n", api.ErrRune, 10)
	refuses(t, strings.Repeat("O\n", 1000)+"z", api.ErrRune, 2000)
}

func TestReadOfTheLongestTexts(t *testing.T) {
	n := api.MaxText
	reads(t, strings.Repeat(".", n))
	reads(t, strings.Repeat(".", n-1)+"O", cell(n-1, 0, 1))
	reads(t, strings.Repeat("\n", n-1)+"O", cell(0, n-1, 1))
	reads(t, strings.Repeat("O", n), line(0, 0, n, 1)...)
	reads(t, strings.Repeat("\u28fe", n/3)+".", line(0, 0, n/3, 254)...)
	reads(t, "!"+strings.Repeat("x", n-3)+"\nO", cell(0, 0, 1))
	refuses(t, strings.Repeat(".", n-1)+"x", api.ErrRune, n-1)
	refuses(t, strings.Repeat("\n", n-1)+"x", api.ErrRune, n-1)
	refuses(t, "x"+strings.Repeat(".", n-1), api.ErrRune, 0)
	for _, text := range []string{strings.Repeat(".", n), strings.Repeat("\n", n), strings.Repeat("x", n), "!" + strings.Repeat("x", n-1), ".x" + strings.Repeat("O", n)} {
		refuses(t, text+".", api.ErrText, 0)
		refuses(t, text+"\n", api.ErrText, 0)
		refuses(t, text+text, api.ErrText, 0)
	}
}

// met counts what was answered.
type met map[api.Errno]int

// asModel looks whether a text is read as the model reads it.
func (m met) asModel(t *testing.T, text string) {
	t.Helper()
	want, place, code := modelRead(text)
	m[code]++
	if code == api.OK {
		reads(t, text, want...)
	} else {
		refuses(t, text, code, place)
	}
}

// often looks whether each of the answers was met so many times.
func (m met) often(t *testing.T, least int, codes ...api.Errno) {
	t.Helper()
	for _, e := range codes {
		if m[e] < least {
			t.Errorf("%d was answered %d times", e, m[e])
		}
	}
}

// TestReadOfAllShortTexts: all texts of up to five of these pieces.
func TestReadOfAllShortTexts(t *testing.T) {
	seen := met{}
	pieces := []string{".", "O", "\u2802", "!", "\n", "\r", "x", "\xe2"}
	var grow func(text string, more int)
	grow = func(text string, more int) {
		seen.asModel(t, text)
		if more > 0 {
			for _, p := range pieces {
				grow(text+p, more-1)
			}
		}
	}
	grow("", 5)
	seen.often(t, 7000, api.OK, api.ErrRune)
}

// goodTexts are pictures of all forms.
var goodTexts = []string{
	"!Name: glider\n.O.\n..O\nOOO\n",
	"!a\r\n\r\n*#oO\r\n!\xff\r\n_. \u2802\u28ff\r\n\r\n",
	"\n\n\u2803.O\r",
	"O",
	" O_\n! O_\n\u2810\u2810O\n!",
}

// TestReadWithEveryByteAtEveryPlace: each byte in the place of another, ahead of another, and at the end.
func TestReadWithEveryByteAtEveryPlace(t *testing.T) {
	seen := met{}
	for _, text := range goodTexts {
		if _, _, e := plain.Read(text); e != api.OK {
			t.Errorf("Read(%q): %d", text, e)
		}
		for at := 0; at <= len(text); at++ {
			for b := range 256 {
				letter := string([]byte{byte(b)})
				seen.asModel(t, text[:at]+letter+text[at:])
				if at < len(text) {
					seen.asModel(t, text[:at]+letter+text[at+1:])
				}
			}
		}
	}
	seen.often(t, 3000, api.OK, api.ErrRune)
}

// text is a text that may be a picture.
func (d *dice) text() string {
	pieces := []string{".", "O", " ", "_", "o", "*", "#", "\u2802", "\u2803", "\u28ff", "\n", "\n", "\n", "\r\n", "\n!", "\n!x\xff\n", ".O.O", "\n\n"}
	text := one(d, []string{"", "", "!", "!é\n", "\r\n"})
	for range d.below(30) {
		text += one(d, pieces)
		if d.below(60) == 0 {
			text += one(d, []string{"x", "!", "\r", "\xff", "\xe2\xa0", "\u2801", "\u2900", "\t", "\x00"})
		}
	}
	return text
}

func TestReadAsTheModel(t *testing.T) {
	d := dice(1)
	seen := met{}
	for range 50000 {
		seen.asModel(t, d.text())
	}
	seen.often(t, 5000, api.OK, api.ErrRune)
}
