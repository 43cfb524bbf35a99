package rle_test

import (
	"slices"
	"strconv"
	"strings"
	"testing"

	"vivarium/api"
	"vivarium/scan"
)

// P22.1: the body.

// bodied is a pattern of these cells, by the rule r.
func bodied(w, h int, cells ...api.Cell) api.Doc {
	return api.Doc{W: w, H: h, Rule: "r", Cells: cells}
}

// headOf is the head of a pattern of these sides, by the rule r.
func headOf(w, h int) string {
	return "x = " + strconv.Itoa(w) + ", y = " + strconv.Itoa(h) + ", rule = r\n"
}

// holds looks at a body that is read.
func holds(t *testing.T, w, h int, body string, cells ...api.Cell) {
	t.Helper()
	reads(t, headOf(w, h)+body, bodied(w, h, cells...))
}

// holdsNot looks at a body that is refused at a place of it.
func holdsNot(t *testing.T, w, h int, body string, code api.Errno, at int) {
	t.Helper()
	for _, ahead := range []string{"", "#C\n\r\n", "#CXRLE Gen=4\r\n"} {
		head := ahead + headOf(w, h)
		refuses(t, head+body, code, len(head)+at)
		head = strings.TrimSuffix(head, "\n") + " \t\r\n"
		refuses(t, head+body, code, len(head)+at)
	}
}

func TestReadOfBodies(t *testing.T) {
	holds(t, 3, 3, "!")
	holds(t, 0, 0, "!")
	holds(t, 0, 0, "$b.3$!")
	holds(t, 3, 3, "o!", cell(0, 0, 1))
	holds(t, 3, 3, "3o!", line(0, 0, 3, 1)...)
	holds(t, 3, 3, "oo1o!", line(0, 0, 3, 1)...)
	holds(t, 3, 3, "2bo$$bo!", cell(2, 0, 1), cell(1, 2, 1))
	holds(t, 3, 4, "b$2$b2o!", line(1, 3, 2, 1)...)
}

func TestReadOfRuns(t *testing.T) {
	holds(t, 5, 4, "A.B3$pAo.yO!", cell(0, 0, 1), cell(2, 0, 2), cell(0, 3, 25), cell(1, 3, 1), cell(3, 3, 255))
	holds(t, 5, 4, "bA.o!", cell(1, 0, 1), cell(3, 0, 1))
	holds(t, 9, 1, "003o0002b04A!", append(line(0, 0, 3, 1), line(5, 0, 4, 1)...)...)
	holds(t, 9, 9, " 2o\t\r\n b\n\nX $\n 2$ 3pB\r!", append(line(0, 0, 2, 1), cell(3, 0, 24), cell(0, 3, 26), cell(1, 3, 26), cell(2, 3, 26))...)
	for state := 1; state < 256; state++ {
		holds(t, 4, 2, "$b2"+scan.Tag(uint8(state), true)+"!", line(1, 1, 2, uint8(state))...)
	}
}

// TestReadOfWhatStandsBehindTheEnd: nothing hangs on it.
func TestReadOfWhatStandsBehindTheEnd(t *testing.T) {
	for _, behind := range []string{"", "!", "\n", "o", "9z", "\n#CXRLE\n#CXRLE", "\r\r", "\x00\xff", "\nx = 9, y = 9\n9o!", strings.Repeat("o", 100)} {
		holds(t, 2, 1, "bo!"+behind, cell(1, 0, 1))
		holdsNot(t, 2, 1, "2bo!"+behind, api.ErrBody, 2)
	}
}

// TestReadOfBodiesThatAreNoRuns: what scan.Runs tells of them, ahead of what the runs would tell.
func TestReadOfBodiesThatAreNoRuns(t *testing.T) {
	for body, want := range map[string]fault{
		"": {api.ErrEarly, 0}, " \n": {api.ErrEarly, 2}, "o": {api.ErrEarly, 1}, "o$\n": {api.ErrEarly, 3}, "2": {api.ErrEarly, 1}, "o12": {api.ErrEarly, 3}, "p": {api.ErrEarly, 1}, "3p": {api.ErrEarly, 2},
		"z!": {api.ErrTag, 0}, "oq!": {api.ErrTag, 1}, "2 o!": {api.ErrTag, 1}, "2!": {api.ErrTag, 1}, "2\no!": {api.ErrTag, 1}, "oyP!": {api.ErrTag, 1}, "#C\no!": {api.ErrTag, 0}, "-1o!": {api.ErrTag, 0}, "o,o!": {api.ErrTag, 1}, "\xff!": {api.ErrTag, 0}, "Y!": {api.ErrTag, 0},
		"0o!": {api.ErrRange, 0}, "o0b!": {api.ErrRange, 1}, "000$!": {api.ErrRange, 0}, "1099511627777b!": {api.ErrRange, 0}, "o 9223372036854775808o!": {api.ErrRange, 2}, "b18446744073709551617b!": {api.ErrRange, 1},
	} {
		holdsNot(t, 9, 9, body, want.code, want.at)
		holdsNot(t, 0, 0, body, want.code, want.at) // nothing has room there
		holdsNot(t, 1, 1, "3o$o"+body, want.code, want.at+4)
		if _, at, e := scan.Runs(body); (fault{e, at}) != want {
			t.Errorf("Runs(%q): %d at %d", body, e, at)
		}
	}
}

func TestReadOfRunsBeyondTheBox(t *testing.T) {
	holdsNot(t, 2, 1, "3o!", api.ErrBody, 0)
	holdsNot(t, 2, 1, "o\n2o!", api.ErrBody, 2)
	holdsNot(t, 2, 1, "bbo!", api.ErrBody, 2)
	holdsNot(t, 2, 1, "2b 01o!", api.ErrBody, 3)
	holdsNot(t, 2, 1, "oAyO!", api.ErrBody, 2)
	holdsNot(t, 2, 2, "2o$.2A!", api.ErrBody, 4)
	holdsNot(t, 2, 1, "3b2o3o!", api.ErrBody, 2) // the first run that does not lie in the box
	holdsNot(t, 0, 5, "o!", api.ErrBody, 0)
	holdsNot(t, 1<<40, 1, "1099511627776bo!", api.ErrBody, 14)
	holdsNot(t, 1<<40-1, 1, "1099511627775bo!", api.ErrBody, 14)
	holdsNot(t, 5, 1, "1099511627776o!", api.ErrBody, 0)
	holds(t, 1<<40, 1, "1099511627775bo!", cell(1<<40-1, 0, 1))
	holds(t, 1<<40, 1, "1099511627773b3A!", line(1<<40-3, 0, 3, 1)...)
}

func TestReadOfRunsBelowTheBox(t *testing.T) {
	holdsNot(t, 2, 1, "$o!", api.ErrBody, 1)
	holdsNot(t, 2, 1, "o$o!", api.ErrBody, 2)
	holdsNot(t, 2, 3, "o3$A!", api.ErrBody, 3)
	holdsNot(t, 2, 3, "$$\n$\n yO!", api.ErrBody, 6)
	holdsNot(t, 2, 3, "2$o$o!", api.ErrBody, 4)
	holdsNot(t, 5, 0, "o!", api.ErrBody, 0)
	holdsNot(t, 1, 1<<40, "1099511627776$o!", api.ErrBody, 14)
	holds(t, 1, 1<<40, "1099511627775$o!", cell(0, 1<<40-1, 1))
	holds(t, 2, 3, "2$o$!", cell(0, 2, 1))
}

// TestReadOfTheDeadBeyondTheBox: they and row ends may stand anywhere, as many as there are.
func TestReadOfTheDeadBeyondTheBox(t *testing.T) {
	holds(t, 2, 1, "9b!")
	holds(t, 2, 1, "o9.2b!", cell(0, 0, 1))
	holds(t, 2, 2, "9b$o9.$$9b$!", cell(0, 1, 1))
	holds(t, 0, 0, "9b9$9b9$!")
	holdsNot(t, 2, 1, "9$9bo!", api.ErrBody, 4)
	holdsNot(t, 2, 2, "9bo!", api.ErrBody, 2)
	holds(t, 2, 2, "9b$bo!", cell(1, 1, 1)) // a row end goes back to the left
	most := strings.Repeat("1099511627776b", 30000)
	holds(t, 2, 2, "o"+most+"$.o!", cell(0, 0, 1), cell(1, 1, 1))
	holdsNot(t, 1<<40, 2, most+"o!", api.ErrBody, len(most))
	rows := strings.Repeat("1099511627776$", 30000)
	holds(t, 2, 2, "o$o"+rows+"!", cell(0, 0, 1), cell(0, 1, 1))
	holdsNot(t, 1<<40, 1<<40, rows+"o!", api.ErrBody, len(rows))
}

// square are so many rows of as many living cells.
func square(n int) []api.Cell {
	var cells []api.Cell
	for y := range n {
		cells = append(cells, line(0, y, n, 1)...)
	}
	return cells
}

func TestReadOfManyLivingCells(t *testing.T) {
	holds(t, 1<<21, 1, "1048576o!", line(0, 0, 1<<20, 1)...)
	holds(t, 1<<21, 1, "1048575oyO!", append(line(0, 0, 1<<20-1, 1), cell(1<<20-1, 0, 255))...)
	holds(t, 1<<40, 9, "7b1048576o9b$9b!", line(7, 0, 1<<20, 1)...)
	holdsNot(t, 1<<21, 1, "1048577o!", api.ErrBudget, 0)
	holdsNot(t, 1<<21, 1, "1048576o o!", api.ErrBudget, 9)
	holdsNot(t, 1<<21, 2, "o$1048576o!", api.ErrBudget, 2)
	holdsNot(t, 1<<21, 2, "1048575o$2A!", api.ErrBudget, 9)
	holdsNot(t, 1<<21, 2, "1048576o$b2$o!", api.ErrBody, 12)
	holdsNot(t, 1<<21, 1, "1048577o9z!", api.ErrTag, 9) // scan's faults are ahead
	holdsNot(t, 1<<40, 1, "1099511627776o!", api.ErrBudget, 0)
	holdsNot(t, 1<<40, 1, "o1099511627775o!", api.ErrBudget, 1)
	holdsNot(t, 1<<40, 1, "o1099511627776o!", api.ErrBody, 1) // ahead of the budget, at one run
	holdsNot(t, 1<<40, 1, "1048577o1099511627776o!", api.ErrBudget, 0)
	rows := strings.Repeat("1024o$", 1024)
	holds(t, 1024, 1024, rows+"!", square(1024)...)
	holds(t, 1025, 1025, rows+"1024b!", square(1024)...)
	holdsNot(t, 1025, 1025, rows+"1024b1024b\no!", api.ErrBody, len(rows)+11)
	holdsNot(t, 1025, 1025, rows+"1024b\no!", api.ErrBudget, len(rows)+6)
}

// TestReadOfTheMostRuns: a text of MaxText bytes that is nothing but runs.
func TestReadOfTheMostRuns(t *testing.T) {
	head := headOf(1<<21, 2)
	left := api.MaxText - len(head) - 1
	body := strings.Repeat("Ao", left/2) + strings.Repeat("A", left%2)
	want := bodied(1<<21, 2)
	for x := range left {
		want.Cells = append(want.Cells, cell(x, 0, 1))
	}
	reads(t, head+body+"!", want)
	refuses(t, headOf(left-1, 2)+body+"!", api.ErrBody, len(headOf(left-1, 2))+left-1)
	refuses(t, head+body+"$", api.ErrEarly, api.MaxText)
}

// TestReadAnswersCellsByRows: whatever the runs are.
func TestReadAnswersCellsByRows(t *testing.T) {
	d := dice(3)
	many := 0
	for range 3000 {
		body := ""
		for range d.below(12) {
			body += one(&d, []string{"", "2", "3", "07"}) + one(&d, []string{"b", "o", "$", ".", "A", "pA", "$", "o"}) + one(&d, []string{"", "", " ", "\n"})
		}
		got := mustRead(t, headOf(90, 90)+body+"!")
		for i, c := range got.Cells {
			if c.State == 0 || i > 0 && (c.Y < got.Cells[i-1].Y || c.Y == got.Cells[i-1].Y && c.X <= got.Cells[i-1].X) {
				t.Fatalf("Read of %q: %v", body, got.Cells)
			}
		}
		many += len(got.Cells)
		want := modelCells(body)
		if !slices.Equal(got.Cells, want) {
			t.Errorf("Read of %q: %v, not %v", body, got.Cells, want)
		}
	}
	if many < 20000 {
		t.Errorf("%d cells", many)
	}
}

// modelCells are the cells of a body, each run written out tag by tag.
func modelCells(body string) []api.Cell {
	runs, _, _ := scan.Runs(body + "!")
	var cells []api.Cell
	x, y := 0, 0
	for _, run := range runs {
		for range run.Count {
			state, _ := scan.State(run.Tag)
			switch {
			case run.Tag == "$":
				x, y = 0, y+1
				continue
			case state > 0:
				cells = append(cells, cell(x, y, state))
			}
			x++
		}
	}
	return cells
}
