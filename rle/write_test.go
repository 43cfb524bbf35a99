package rle_test

import (
	"slices"
	"sort"
	"strings"
	"testing"

	"vivarium/api"
	"vivarium/rle"
)

// P22.3: a pattern's one form.

// bodyOf looks at the body that is written of a pattern of these cells.
func bodyOf(t *testing.T, w, h int, body string, cells ...api.Cell) {
	t.Helper()
	writes(t, bodied(w, h, cells...), headOf(w, h)+body+"\n")
}

func TestWriteOfHeads(t *testing.T) {
	for _, w := range []int{0, 1, 10, 1<<40 - 1, 1 << 40} {
		for _, h := range []int{0, 1, 10, 1<<40 - 1, 1 << 40} {
			bodyOf(t, w, h, "!")
		}
	}
	for _, rule := range []string{"r", "B3/S23:T30,20", "a, b = c", "=", "!", "#", "\x00", "é\xff", "a \t b", strings.Repeat("long ", 100) + "rule"} {
		writes(t, api.Doc{W: 3, H: 4, Rule: rule}, "x = 3, y = 4, rule = "+rule+"\n!\n")
	}
}

func TestWriteOfTheExtraLine(t *testing.T) {
	const rest = "x = 2, y = 1, rule = r\n.B!\n"
	writes(t, simpleDoc(), rest)
	writes(t, placed(0, 0, 0), "#CXRLE Pos=0,0\n"+rest)
	writes(t, placed(-3, 40, 0), "#CXRLE Pos=-3,40\n"+rest)
	writes(t, placed(1<<40, -1<<40, 1<<50), "#CXRLE Pos=1099511627776,-1099511627776 Gen=1125899906842624\n"+rest)
	writes(t, placed(0, 0, 1), "#CXRLE Pos=0,0 Gen=1\n"+rest)
	writes(t, aged(1), "#CXRLE Gen=1\n"+rest)
	writes(t, aged(1<<50), "#CXRLE Gen=1125899906842624\n"+rest)
}

func TestWriteOfRuns(t *testing.T) {
	bodyOf(t, 9, 9, "!")
	bodyOf(t, 9, 9, "o!", cell(0, 0, 1))
	bodyOf(t, 9, 9, "bo!", cell(1, 0, 1))
	bodyOf(t, 9, 9, "8bo!", cell(8, 0, 1))
	bodyOf(t, 9, 9, "9o!", line(0, 0, 9, 1)...)
	bodyOf(t, 9, 9, "2ob3ob2o!", slices.Concat(line(0, 0, 2, 1), line(3, 0, 3, 1), line(7, 0, 2, 1))...)
	bodyOf(t, 1, 9, "o$o$o!", cell(0, 0, 1), cell(0, 1, 1), cell(0, 2, 1))
	bodyOf(t, 1, 9, "$o!", cell(0, 1, 1))
	bodyOf(t, 1, 9, "2$o3$o!", cell(0, 2, 1), cell(0, 5, 1))
	bodyOf(t, 9, 9, "8$8bo!", cell(8, 8, 1))
	bodyOf(t, 9, 9, "8bo$o!", cell(8, 0, 1), cell(0, 1, 1)) // where a row goes on in the next one, it is another run
	bodyOf(t, 2, 2, "2o$2o!", slices.Concat(line(0, 0, 2, 1), line(0, 1, 2, 1))...)
	bodyOf(t, 9, 9, "3bo$3bo!", cell(3, 0, 1), cell(3, 1, 1))
	bodyOf(t, 1<<40, 1<<40, "1099511627775$1099511627775bo!", cell(1<<40-1, 1<<40-1, 1))
	bodyOf(t, 1<<21, 1, "1048576o!", line(0, 0, 1<<20, 1)...)
}

func TestWriteOfTags(t *testing.T) {
	bodyOf(t, 9, 9, "A.B!", cell(0, 0, 1), cell(2, 0, 2))
	bodyOf(t, 9, 9, "2A.2B!", slices.Concat(line(0, 0, 2, 1), line(3, 0, 2, 2))...)
	bodyOf(t, 9, 9, "3.2ABA2$7.yO!", slices.Concat(line(3, 0, 2, 1), line(5, 0, 1, 2), line(6, 0, 1, 1), line(7, 2, 1, 255))...)
	bodyOf(t, 9, 9, "bo!", cell(1, 0, 1), cell(0, 0, 0), cell(99, 99, 0))
	for state := 2; state < 256; state++ {
		tag := string([]byte{byte('A' + state - 1)})
		if state > 24 {
			tag = string([]byte{byte('p' + (state-25)/24), byte('A' + (state-25)%24)})
		}
		bodyOf(t, 9, 9, ".3"+tag+"!", line(1, 0, 3, uint8(state))...)
		bodyOf(t, 9, 9, "A"+tag+"!", cell(1, 0, uint8(state)), cell(0, 0, 1))
		bodyOf(t, 9, 9, "A4$"+tag+"!", cell(0, 4, uint8(state)), cell(0, 0, 1))
	}
}

func TestWriteOfCellsInAnyOrder(t *testing.T) {
	d := dice(31)
	for range 300 {
		doc := d.doc()
		text := mustWrite(t, doc)
		for range 5 {
			writes(t, d.strewn(doc), text)
		}
		slices.Reverse(doc.Cells)
		writes(t, doc, text)
	}
}

func TestWriteAsTheModel(t *testing.T) {
	d := dice(32)
	long := 0
	for range 4000 {
		doc := d.strewn(d.doc())
		want := modelWrite(doc)
		writes(t, doc, want)
		if strings.Count(want, "\n") > 3+strings.Count(want, "#CXRLE") {
			long++
		}
	}
	if long < 150 {
		t.Errorf("%d have more than two lines of a body", long)
	}
}

// breaks looks whether the pattern of a body is written in just these lines. (What Read makes of them is looked at elsewhere.)
func breaks(t *testing.T, lines ...string) {
	t.Helper()
	text := headOf(1<<40, 1<<40) + strings.Join(lines, "\n") + "\n"
	writes(t, mustRead(t, text), text)
}

// TestWriteOfLongBodies: a line has 70 bytes at most, and a run is put on the next one just where it has no room.
func TestWriteOfLongBodies(t *testing.T) {
	two := strings.Repeat("ob", 35)
	many := strings.Repeat("A.", 35)
	if len(two) != 70 || len(many) != 70 {
		t.Fatal(len(two), len(many))
	}
	for _, lines := range [][]string{
		{two[:67] + "!"},
		{two[:69] + "!"}, // the end of it all
		{two[:68] + "2o", "!"},
		{two, "o!"}, // runs of one byte, and of more
		{two[:68] + "2o", "bo!"},
		{two[:69], "2bo!"},
		{two[:68] + "2o", "2bo!"},
		{two[:66] + "12ob", "2o!"},
		{two[:66] + "2o", "123bo!"},
		{two[:67], "1234bo!"},
		{two[:67] + "12b", "o!"},
		{two[:69] + "$", "o!"}, // row ends
		{two[:68] + "2o", "$o!"},
		{two[:69], "2$o!"},
		{two[:67] + "99$", "o!"},
		{two[:65] + "2$bo!"},
		{two[:55] + "1099511627775$o", "!"},
		{two[:57], "1099511627775$o!"},
		{many[:68] + "pA", "!"}, // tags of two letters
		{many[:69], "2.pA!"},
		{many[:68] + "2A", "pA!"},
		{many[:67] + "2pA", "!"},
		{many[:67] + ".", "12yO!"},
		{many[:68] + "B", "pAqA!"},
		{two, two, two, two[:69] + "!"}, // each line by itself
		{two, two[:68] + "2o", "b2o!"},
		{two[:69], "2b" + two[:68], "2o!"},
		{two[:67], "1234b" + two[:65], "3bo!"},
	} {
		breaks(t, lines...)
	}
}

// TestWriteOfLongTexts: of just MaxText bytes, and of more.
func TestWriteOfLongTexts(t *testing.T) {
	for _, d := range []api.Doc{{}, {Gen: 1 << 50}, {Placed: true, At: api.Point{X: -5}}, {W: 9, H: 9, Cells: glider()}, {W: 300000, H: 2, Cells: spread(130000)}} {
		d.Rule = "r"
		left := api.MaxText - len(mustWrite(t, d))
		for _, more := range []int{-1, 0} {
			d.Rule = strings.Repeat("r", 1+left+more)
			text := mustWrite(t, d)
			if len(text) != api.MaxText+more {
				t.Errorf("%d bytes", len(text))
			}
			reads(t, text, d)
		}
		for _, more := range []int{1, 2, 1000, 1 << 20} {
			d.Rule = strings.Repeat("r", 1+left+more)
			checks(t, d, api.OK)
			noText(t, d, api.ErrText)
		}
		d.Gen = -1
		noText(t, d, api.ErrFar) // ahead of the text's length
	}
	most := api.Doc{W: 1 << 40, H: 1 << 40, Rule: "r", Cells: spread(api.MaxCells)}
	checks(t, most, api.OK)
	noText(t, most, api.ErrText)
	for i := range most.Cells {
		most.Cells[i] = cell(i*1000003, i*1000003, 255)
	}
	checks(t, most, api.OK)
	noText(t, most, api.ErrText)
}

// spread are so many cells in one row, every other place.
func spread(n int) []api.Cell {
	cells := make([]api.Cell, n)
	for i := range cells {
		cells[i] = cell(2*i, 1, 1)
	}
	return cells
}

// TestWriteOfLongBodiesAlone: one cell more is two bytes more, or three with a line end.
func TestWriteOfLongBodiesAlone(t *testing.T) {
	d := api.Doc{W: 1 << 21, H: 2, Rule: "r"}
	n := sort.Search(api.MaxCells, func(n int) bool {
		d.Cells = spread(n)
		_, e := rle.Write(d)
		return e != api.OK
	})
	d.Cells = spread(n)
	noText(t, d, api.ErrText)
	d.Cells = spread(n - 1)
	if left := api.MaxText - len(mustWrite(t, d)); left < 0 || left > 2 {
		t.Errorf("%d cells: %d bytes are left", n-1, left)
	}
}
