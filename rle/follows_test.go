package rle_test

import (
	"strings"
	"testing"

	"vivarium/api"
	"vivarium/rle"
)

// P22.5: what follows.

func TestReadOfWriteIsThePattern(t *testing.T) {
	d := dice(41)
	for range 4000 {
		doc := d.doc() // its cells are by rows
		reads(t, mustWrite(t, doc), doc)
		reads(t, mustWrite(t, d.strewn(doc)), doc)
	}
	for _, doc := range []api.Doc{
		{Rule: "r"}, {Rule: "a, b = c\t:d", Placed: true, At: api.Point{X: -1 << 40, Y: 1 << 40}, Gen: 1 << 50}, {W: 1 << 40, H: 1 << 40, Rule: "=", Cells: []api.Cell{cell(0, 0, 1), cell(1<<40-1, 0, 255), cell(7, 1<<40-1, 2)}},
		{W: 1 << 20, H: 1, Rule: "r", Cells: line(0, 0, 1<<20, 3)}, {W: 1024, H: 1024, Rule: "r", Cells: square(1024)}, {W: 3, H: 3, Rule: "#CXRLE\x00!", Cells: glider()},
	} {
		reads(t, mustWrite(t, doc), doc)
	}
}

// TestReadOfWriteOfFarCells: patterns that are wide and high, with few cells.
func TestReadOfWriteOfFarCells(t *testing.T) {
	d := dice(42)
	for range 500 {
		doc := api.Doc{W: 1 << 40, H: 1 << 40, Rule: "r", Placed: true, At: api.Point{X: 1 - d.below(1<<30), Y: d.below(1 << 30)}}
		y := 0
		for range d.below(9) {
			y += 1 + d.below(1<<d.below(32))
			x := d.below(5)
			for range 1 + d.below(9) {
				n := 1 + d.below(3)
				doc.Cells = append(doc.Cells, line(x, y, n, uint8(1+d.below(2)))...)
				x += n + d.below(1<<d.below(32))
			}
		}
		reads(t, mustWrite(t, doc), doc)
		reads(t, mustWrite(t, d.strewn(doc)), doc)
	}
}

// thereAndBack looks at a text: what is read of it, if anything is, can be told and comes round.
func thereAndBack(t *testing.T, text string) bool {
	t.Helper()
	d, _, is := told(text)
	if !is {
		return false
	}
	checks(t, d, api.OK)
	again, e := rle.Write(d)
	if e != api.OK {
		if e != api.ErrText {
			t.Errorf("Write of Read(%q): %d", brief(text), e)
		}
		return true
	}
	reads(t, again, d)
	writes(t, mustRead(t, again), again)
	return true
}

func TestWriteOfWhatIsReadIsReadAsIt(t *testing.T) {
	d := dice(43)
	n := 0
	for range 30000 {
		if thereAndBack(t, d.text()) {
			n++
		}
	}
	if n < 3000 {
		t.Errorf("%d texts were read", n)
	}
	for _, text := range goodTexts {
		if !thereAndBack(t, text) {
			t.Errorf("Read(%q) is refused", text)
		}
	}
}

// TestWriteOfWhatIsReadMayBeTooLong: blanks that lack, and a short head, leave room that the one form does not.
func TestWriteOfWhatIsReadMayBeTooLong(t *testing.T) {
	head := "x=2097152,y=1\n"
	body := strings.Repeat("ob", (api.MaxText-len(head))/2)
	body = body[:api.MaxText-len(head)-2] + "!"
	d := mustRead(t, head+body)
	checks(t, d, api.OK)
	noText(t, d, api.ErrText)
}

func TestNoLineOfABodyIsTooLong(t *testing.T) {
	d := dice(44)
	longest := 0
	for range 4000 {
		text := mustWrite(t, d.doc())
		_, body, _ := strings.Cut(text[strings.Index(text, "x = "):], "\n")
		for line := range strings.Lines(body) {
			n := len(strings.TrimSuffix(line, "\n"))
			longest = max(longest, n)
			if n > 70 || n == 0 || !strings.HasSuffix(line, "\n") {
				t.Fatalf("%q of %q", line, text)
			}
		}
	}
	if longest != 70 {
		t.Errorf("no line has more than %d bytes", longest)
	}
}

func TestBytesBehindTheEndCountForNothing(t *testing.T) {
	d := dice(45)
	for range 2000 {
		doc := d.doc()
		text := mustWrite(t, doc)
		for range 3 {
			reads(t, text+d.text(), doc)
			reads(t, strings.TrimSuffix(text, "\n")+d.text(), doc)
		}
	}
	text := mustWrite(t, simpleDoc())
	reads(t, text+strings.Repeat("\xff", api.MaxText-len(text)), simpleDoc())
	refuses(t, text+strings.Repeat("\xff", api.MaxText-len(text)+1), api.ErrText, 0)
}
