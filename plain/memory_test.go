package plain_test

import (
	"slices"
	"testing"

	"vivarium/api"
	"vivarium/plain"
)

// What is handed in stays as it was, its spare room too; what is answered is the caller's own.

func TestWhatIsHandedInStays(t *testing.T) {
	d := dice(51)
	for range 1000 {
		cells, r := d.strewn(d.living()), d.small()
		switch d.below(6) { // some that are refused
		case 0:
			cells = append(cells, cell(1<<40+1, 0, 1))
		case 1:
			cells = append(cells, cell(1, 1, 3), cell(1, 1, 3))
		case 2:
			r.W = -1
		}
		junk := []api.Cell{cell(0, 0, 77), cell(99, 99, 78), cell(-1, -1, 0)}
		cells = append(cells, junk...)[:len(cells)]
		before := slices.Clone(cells[:len(cells)+len(junk)])
		plain.Write(cells, r)
		plain.Halves(cells, r)
		if !slices.Equal(cells[:len(before)], before) {
			t.Errorf("%v came to be %v", before, cells[:len(before)])
		}
	}
}

// TestWhatIsHandedInMayBeWrittenOver: a picture does not change with the cells, and nothing of them is kept.
func TestWhatIsHandedInMayBeWrittenOver(t *testing.T) {
	cells, r := []api.Cell{cell(0, 0, 1), cell(1, 1, 2)}, rect(0, 0, 2, 2)
	text, e := plain.Write(cells, r)
	half, f := plain.Halves(cells, r)
	if e != api.OK || f != api.OK {
		t.Fatal(e, f)
	}
	for i := range cells {
		cells[i] = cell(1, i, 5)
	}
	if text != "O.\n.\u2802\n" || half != "\u2580\u2584\n" {
		t.Errorf("%q, %q", text, half)
	}
	writes(t, cells, r, ".\u2805\n.\u2805\n")
	halves(t, cells, r, " \u2588\n")
	writes(t, nil, r, "..\n..\n")
	halves(t, nil, r, "  \n")
}

func TestWhatReadAnswersIsTheCallersOwn(t *testing.T) {
	for _, text := range goodTexts {
		first, second := mustRead(t, text), mustRead(t, text)
		want := slices.Clone(second)
		list := first[:cap(first)]
		for i := range list {
			list[i] = cell(-7, -7, 7)
		}
		if !slices.Equal(second, want) {
			t.Errorf("Read(%q): what was done to an answer is seen in another", text)
		}
		_ = append(second, cell(9, 9, 9))
		reads(t, text, want...)
	}
}

// TestAnswersAreAlikeEachTime: whatever was asked in between.
func TestAnswersAreAlikeEachTime(t *testing.T) {
	d := dice(52)
	for range 300 {
		cells, r, text := d.strewn(d.living()), d.small(), d.text()
		a, e := plain.Write(cells, r)
		b, f := plain.Halves(cells, r)
		c, at, g := plain.Read(text)
		for range 3 {
			plain.Read(d.text())
			plain.Halves(d.living(), d.small())
			plain.Write(d.living(), d.small())
			a2, e2 := plain.Write(cells, r)
			b2, f2 := plain.Halves(cells, r)
			c2, at2, g2 := plain.Read(text)
			if a != a2 || b != b2 || !slices.Equal(c, c2) || at != at2 || e != e2 || f != f2 || g != g2 {
				t.Fatalf("%v; %v; %q: another answer", cells, r, text)
			}
		}
	}
}
