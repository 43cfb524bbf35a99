package rle_test

import (
	"errors"
	"slices"
	"testing"

	"vivarium/api"
	"vivarium/rle"
)

// What is handed in stays as it was, its spare room too; what is answered is the caller's own.

func TestWhatIsHandedInStays(t *testing.T) {
	d := dice(61)
	for range 500 {
		doc := d.strewn(d.doc())
		if d.below(3) == 0 {
			doc.Cells = append(doc.Cells, cell(-1, -1, 1)) // one that is refused
		}
		junk := []api.Cell{cell(0, 0, 77), cell(99, 99, 78), cell(-1, -1, 0)}
		doc.Cells = append(doc.Cells, junk...)[:len(doc.Cells)]
		before := slices.Clone(doc.Cells[:len(doc.Cells)+len(junk)])
		rle.Check(doc)
		rle.Write(doc)
		if !slices.Equal(doc.Cells[:len(before)], before) {
			t.Errorf("%v came to be %v", before, doc.Cells[:len(before)])
		}
	}
}

// TestWhatIsHandedInMayBeWrittenOver: a text that was written does not change with the cells.
func TestWhatIsHandedInMayBeWrittenOver(t *testing.T) {
	doc := good()
	text := mustWrite(t, doc)
	want := string([]byte(text))
	for i := range doc.Cells {
		doc.Cells[i] = cell(1, 1, 5)
	}
	if text != want {
		t.Errorf("%q came to be %q", want, text)
	}
	writes(t, good(), want)
}

func TestWhatReadAnswersIsTheCallersOwn(t *testing.T) {
	for _, text := range goodTexts {
		first, second := mustRead(t, text), mustRead(t, text)
		want := second
		want.Cells = slices.Clone(second.Cells)
		list := first.Cells[:cap(first.Cells)]
		for i := range list {
			list[i] = cell(-7, -7, 7)
		}
		first.Cells = append(first.Cells, cell(8, 8, 8))
		if !same(second, want) {
			t.Errorf("Read(%q): what was done to an answer is seen in another", text)
		}
		second.Cells = append(second.Cells, cell(9, 9, 9))
		reads(t, text, want)
	}
}

// TestErrorsAreTheCallersOwn: a fault that is written over is seen in no other one.
func TestErrorsAreTheCallersOwn(t *testing.T) {
	for _, text := range []string{"", "y", "x=1099511627777", "#CXRLE z", "x=1,y=1\n2o!", "x=1,y=1\nz"} {
		_, want, _ := told(text)
		_, one := rle.Read(text)
		_, other := rle.Read(text)
		var f *api.Fault
		if !errors.As(one, &f) {
			t.Fatal(one)
		}
		*f = api.Fault{Code: 99, At: 99}
		if !errors.As(other, &f) || (fault{f.Code, f.At}) != want {
			t.Errorf("Read(%q): %v", text, f)
		}
		if one.Error() == "" || other.Error() == "" || errors.Unwrap(other) != error(f) {
			t.Errorf("Read(%q): its error tells nothing, or wraps none", text)
		}
		refuses(t, text, want.code, want.at)
	}
}
