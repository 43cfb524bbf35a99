package rle_test

import (
	"testing"

	"vivarium/api"
	"vivarium/rle"
)

// The rows of the chapter's section Examples, in their order.

func TestExamplesOfRead(t *testing.T) {
	const text = "x = 3, y = 3, rule = B3/S23:T30,20\nbo$2bo$3o!"
	want := api.Doc{W: 3, H: 3, Rule: "B3/S23:T30,20", Cells: glider()}
	reads(t, text, want)
	want.Placed, want.At, want.Gen = true, api.Point{X: -2, Y: 5}, 7
	reads(t, "#CXRLE Pos=-2,5 Gen=7\n#N glider\n"+text, want)
	reads(t, "x=1,y=1\no!", api.Doc{W: 1, H: 1, Rule: "B3/S23", Cells: line(0, 0, 1, 1)})
}

func TestExamplesOfFaults(t *testing.T) {
	refuses(t, "", api.ErrHead, 0)
	refuses(t, "x = 1", api.ErrHead, 5)
	refuses(t, "x = 1, y = 1, rule =", api.ErrHead, 20)
	refuses(t, "y", api.ErrHead, 0)
	refuses(t, "x = 1, y = 1099511627777", api.ErrFar, 11)
	refuses(t, "#CXRLE Gen=-1", api.ErrExtra, 7)
	refuses(t, "#CXRLE Pos=1,2 Pos=1,2", api.ErrExtra, 15)
	refuses(t, "#CXRLE\n#CXRLE", api.ErrExtra, 7)
	refuses(t, "x=2,y=1\n3o!", api.ErrBody, 8)
	refuses(t, "x=2,y=1\no$o!", api.ErrBody, 10)
	reads(t, "x=2,y=1\n9b!", api.Doc{W: 2, H: 1, Rule: "B3/S23"})
	refuses(t, "x=2,y=1\n2", api.ErrEarly, 9)
	refuses(t, "x=2,y=1\noq!", api.ErrTag, 9)
}

func TestExamplesOfWrite(t *testing.T) {
	writes(t, api.Doc{W: 3, H: 3, Rule: "B3/S23", Cells: glider()}, "x = 3, y = 3, rule = B3/S23\nbo$2bo$3o!\n")
	writes(t, api.Doc{W: 5, H: 9, Rule: "w:P", Placed: true, Gen: 3, Cells: []api.Cell{cell(2, 4, 1), cell(4, 4, 30)}}, "#CXRLE Pos=0,0 Gen=3\nx = 5, y = 9, rule = w:P\n4$2.A.pF!\n")
	writes(t, api.Doc{Rule: "r"}, "x = 0, y = 0, rule = r\n!\n")
}

func TestExamplesOfCheck(t *testing.T) {
	with := func(cells ...api.Cell) api.Doc { return api.Doc{W: 1, H: 1, Rule: "r", Cells: cells} }
	checks(t, with(cell(1, 0, 1)), api.ErrPlace)
	checks(t, with(cell(0, 0, 1), cell(0, 0, 1)), api.ErrMany)
	checks(t, with(cell(0, 0, 1), cell(0, 0, 0)), api.OK)
	checks(t, api.Doc{W: 1, H: 1, Rule: " r"}, api.ErrRule)
	checks(t, api.Doc{W: 1, H: 1, Rule: "r", At: api.Point{X: 1}}, api.ErrDoc)
}

func TestExamplesOfSplit(t *testing.T) {
	splits(t, "B3/S23:T30,20", "B3/S23", "T30,20", 7)
	splits(t, "t", "t", "P", 1)
	splits(t, "a:b:", "a", "b:", 2)
}

// splits looks at what Split answers.
func splits(t *testing.T, rule, name, topology string, at int) {
	t.Helper()
	if a, b, n := rle.Split(rule); a != name || b != topology || n != at {
		t.Errorf("Split(%q) = %q, %q, %d, not %q, %q, %d", brief(rule), brief(a), brief(b), n, brief(name), brief(topology), at)
	}
}
