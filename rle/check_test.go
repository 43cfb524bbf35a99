package rle_test

import (
	"slices"
	"strings"
	"testing"

	"vivarium/api"
)

// P22.2: which patterns can be told.

// good is a pattern that can be told.
func good() api.Doc {
	return api.Doc{W: 4, H: 3, Rule: "r:P", Placed: true, At: api.Point{X: 5, Y: -6}, Gen: 7, Cells: []api.Cell{cell(3, 2, 9), cell(0, 0, 1)}}
}

// faults are what can be wrong with a pattern, in the order in which it is looked for, but for too many cells.
var faults = []struct {
	code  api.Errno
	spoil []func(d *api.Doc)
}{
	{api.ErrFar, []func(d *api.Doc){
		func(d *api.Doc) { d.W = -1 }, func(d *api.Doc) { d.H = -1 }, func(d *api.Doc) { d.W = 1<<40 + 1 }, func(d *api.Doc) { d.H = 1<<40 + 1 },
		func(d *api.Doc) { d.W = -1 << 63 }, func(d *api.Doc) { d.H = 1<<63 - 1 }, func(d *api.Doc) { d.W, d.H = 1<<62, -1<<62 },
	}},
	{api.ErrRule, []func(d *api.Doc){
		func(d *api.Doc) { d.Rule = "" }, func(d *api.Doc) { d.Rule = " " }, func(d *api.Doc) { d.Rule = "\t" }, func(d *api.Doc) { d.Rule = " r" }, func(d *api.Doc) { d.Rule = "\tr" }, func(d *api.Doc) { d.Rule = "r " }, func(d *api.Doc) { d.Rule = "r\t" },
		func(d *api.Doc) { d.Rule = "\n" }, func(d *api.Doc) { d.Rule = "\r" }, func(d *api.Doc) { d.Rule = "r\n" }, func(d *api.Doc) { d.Rule = "r\r" }, func(d *api.Doc) { d.Rule = "\nr" }, func(d *api.Doc) { d.Rule = "\rr" }, func(d *api.Doc) { d.Rule = "a\nb" }, func(d *api.Doc) { d.Rule = "a \r b" },
		func(d *api.Doc) { d.Rule = strings.Repeat("r", api.MaxText) + " " },
	}},
	{api.ErrDoc, []func(d *api.Doc){
		func(d *api.Doc) { d.Placed = false; d.At.X = 5 }, func(d *api.Doc) { d.Placed, d.At = false, api.Point{X: -1} }, func(d *api.Doc) { d.Placed, d.At = false, api.Point{Y: 1} }, func(d *api.Doc) { d.Placed, d.At = false, api.Point{X: 1 << 62, Y: -1 << 63} },
	}},
	{api.ErrFar, []func(d *api.Doc){
		func(d *api.Doc) { d.At.X = 1<<40 + 1 }, func(d *api.Doc) { d.At.X = -1<<40 - 1 }, func(d *api.Doc) { d.At.Y = 1<<40 + 1 }, func(d *api.Doc) { d.At.Y = -1<<40 - 1 }, func(d *api.Doc) { d.At.Y = 1<<63 - 1 }, func(d *api.Doc) { d.At.X = -1 << 63 },
		func(d *api.Doc) { d.Gen = -1 }, func(d *api.Doc) { d.Gen = 1<<50 + 1 }, func(d *api.Doc) { d.Gen = -1 << 63 }, func(d *api.Doc) { d.Gen = 1<<63 - 1 },
	}},
	{api.ErrPlace, []func(d *api.Doc){
		func(d *api.Doc) { d.Cells = append(d.Cells, cell(4, 0, 1)) }, func(d *api.Doc) { d.Cells = append(d.Cells, cell(0, 3, 1)) }, func(d *api.Doc) { d.Cells = append(d.Cells, cell(-1, 0, 1)) }, func(d *api.Doc) { d.Cells = append(d.Cells, cell(0, -1, 1)) },
		func(d *api.Doc) { d.Cells = append(d.Cells, cell(1<<63-1, 0, 255)) }, func(d *api.Doc) { d.Cells = append(d.Cells, cell(0, -1<<63, 255)) }, func(d *api.Doc) { d.Cells = append(d.Cells, cell(1<<41, 1<<41, 2)) },
		func(d *api.Doc) { d.Cells = append([]api.Cell{cell(3, 3, 1)}, d.Cells...) }, func(d *api.Doc) { d.W = 3 }, func(d *api.Doc) { d.H = 2 }, func(d *api.Doc) { d.W, d.H = 0, 0 },
	}},
	{api.ErrMany, []func(d *api.Doc){
		func(d *api.Doc) { d.Cells = append(d.Cells, d.Cells[0]) }, func(d *api.Doc) { d.Cells = append(d.Cells, d.Cells[1], cell(2, 2, 1)) }, func(d *api.Doc) { d.Cells = append([]api.Cell{cell(0, 0, 255), cell(1, 1, 1)}, d.Cells...) },
		func(d *api.Doc) { d.Cells = slices.Concat(d.Cells, d.Cells) },
	}},
}

func TestCheckOfPatternsThatCanBeTold(t *testing.T) {
	checks(t, good(), api.OK)
	for _, d := range []api.Doc{
		{Rule: "r"}, {Rule: "r", Placed: true}, {Rule: "r", Gen: 1}, {Rule: "r", Gen: 1 << 50}, {W: 1 << 40, H: 1 << 40, Rule: "r"}, {W: 5, Rule: "r"}, {H: 5, Rule: "r"},
		{Rule: "r", Placed: true, At: api.Point{X: 1 << 40, Y: -1 << 40}, Gen: 1 << 50}, {Rule: "r", Placed: true, At: api.Point{X: -1 << 40, Y: 1 << 40}},
		{Rule: "a \t b"}, {Rule: "\x00"}, {Rule: "\v"}, {Rule: "\u00a0r\u00a0"}, {Rule: "a, b = c"}, {Rule: "#!:"}, {Rule: "\xff"}, {Rule: strings.Repeat("r", 2*api.MaxText)},
		{W: 1 << 40, H: 1 << 40, Rule: "r", Cells: []api.Cell{cell(1<<40-1, 1<<40-1, 255), cell(0, 0, 1), cell(1<<40-1, 0, 1), cell(0, 1<<40-1, 1)}},
		{W: 1, H: 1, Rule: "r", Cells: []api.Cell{cell(0, 0, 255)}},
		{W: 2, H: 2, Rule: "r", Cells: []api.Cell{cell(1, 0, 1), cell(0, 1, 1)}}, // the numbers of the one are the other's
	} {
		checks(t, d, api.OK)
	}
}

// TestCheckOfFaults: each by itself, and with each that is looked for behind it.
func TestCheckOfFaults(t *testing.T) {
	for i, f := range faults {
		for _, spoil := range f.spoil {
			d := good()
			spoil(&d)
			cantTell(t, d, f.code)
			for _, later := range faults[i+1:] {
				for _, more := range later.spoil {
					d := good()
					more(&d)
					spoil(&d)
					cantTell(t, d, f.code)
				}
			}
		}
	}
}

func TestCheckOfCellsOfTheStateNought(t *testing.T) {
	dead := []api.Cell{cell(-1, 0, 0), cell(0, -1, 0), cell(4, 0, 0), cell(0, 3, 0), cell(0, 0, 0), cell(0, 0, 0), cell(3, 2, 0), cell(1<<63-1, -1<<63, 0), cell(1<<50, 1<<50, 0)}
	d := good()
	for at := range 3 {
		d.Cells = slices.Insert(good().Cells, at, dead...)
		checks(t, d, api.OK)
	}
	d.Cells = dead
	checks(t, d, api.OK)
	d.W, d.H = 0, 0
	checks(t, d, api.OK)
	d = good()
	d.Cells = append(make([]api.Cell, api.MaxCells+9), d.Cells...)
	checks(t, d, api.OK)
}

func TestCheckOfManyLivingCells(t *testing.T) {
	d := api.Doc{W: 1 << 20, H: 2, Rule: "r", Cells: line(0, 0, api.MaxCells, 1)}
	checks(t, d, api.OK)
	d.Cells = append(d.Cells, cell(5, 5, 0), cell(0, 1, 0))
	checks(t, d, api.OK)
	d.Cells = append(d.Cells, cell(0, 1, 255))
	cantTell(t, d, api.ErrBudget)
	twice := d
	twice.Cells = append(slices.Clone(d.Cells), cell(77, 0, 1))
	cantTell(t, twice, api.ErrMany)
	twice.Cells = append(slices.Clone(d.Cells), cell(0, 1, 255), cell(0, 2, 1))
	cantTell(t, twice, api.ErrPlace)
	twice.Cells = append(line(0, 0, api.MaxCells, 1), cell(1<<20-1, 0, 1))
	cantTell(t, twice, api.ErrMany)
}

// TestCheckAsTheModel: patterns by chance, some of whose numbers are off.
func TestCheckAsTheModel(t *testing.T) {
	d := dice(21)
	seen := met{}
	numbers := []int{-1 << 63, -1<<40 - 1, -1 << 40, -1, 0, 1, 7, 1 << 40, 1<<40 + 1, 1 << 50, 1<<50 + 1, 1<<63 - 1}
	for range 20000 {
		doc := d.strewn(d.doc())
		for range d.below(3) {
			switch d.below(9) {
			case 0:
				doc.W = one(&d, numbers)
			case 1:
				doc.H = one(&d, numbers)
			case 2:
				doc.Gen = one(&d, numbers)
			case 3:
				doc.At.X = one(&d, numbers)
			case 4:
				doc.At.Y = one(&d, numbers)
			case 5:
				doc.Placed = !doc.Placed
			case 6:
				doc.Rule = one(&d, []string{"", "r ", "\tr", "a\rb", "a\nb", "a b"})
			case 7:
				doc.Cells = append(doc.Cells, doc.Cells[:min(1, len(doc.Cells))]...)
			default:
				doc.Cells = append(doc.Cells, cell(d.below(44)-2, d.below(16)-2, uint8(d.below(3))))
			}
		}
		want := modelCheck(doc)
		seen[want]++
		checks(t, doc, want)
		if want != api.OK {
			noText(t, doc, want)
		}
	}
	seen.often(t, 300, api.OK, api.ErrFar, api.ErrRule, api.ErrDoc, api.ErrPlace, api.ErrMany)
}
