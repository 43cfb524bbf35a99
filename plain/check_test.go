package plain_test

import (
	"slices"
	"testing"

	"vivarium/api"
	"vivarium/plain"
)

// P23.3, P23.4: the errors of Write and of Halves.

// job is what Write and Halves are handed.
type job struct {
	cells []api.Cell
	r     api.Rect
}

// good is a job with no fault.
func good() job {
	return job{cells: []api.Cell{cell(3, 2, 9), cell(0, 0, 1), cell(-5, 7, 2)}, r: rect(1, -1, 4, 5)}
}

// faults are what can be wrong, in the order in which it is looked for; the last of them is a text that is too long.
func faults() []struct {
	code  api.Errno
	spoil []func(j *job)
} {
	return []struct {
		code  api.Errno
		spoil []func(j *job)
	}{
		{api.ErrFar, farCells()},
		{api.ErrMany, []func(j *job){
			func(j *job) { j.cells = append(j.cells, j.cells[0]) }, func(j *job) { j.cells = append(j.cells, cell(0, 0, 255)) }, func(j *job) { j.cells = append([]api.Cell{cell(-5, 7, 1), cell(1, 1, 1)}, j.cells...) },
			func(j *job) { j.cells = slices.Concat(j.cells, j.cells) }, func(j *job) { j.cells = append(j.cells, cell(1<<40, -1<<40, 1), cell(8, 8, 0), cell(1<<40, -1<<40, 2)) },
		}},
		{api.ErrPicture, []func(j *job){
			func(j *job) { j.r.W = -1 }, func(j *job) { j.r.H = -1 }, func(j *job) { j.r.W = 1<<16 + 1 }, func(j *job) { j.r.H = 1<<16 + 1 }, func(j *job) { j.r.W, j.r.H = -1, -1 }, func(j *job) { j.r.W, j.r.H = 0, 1<<16+1 }, func(j *job) { j.r.W, j.r.H = -1, 0 },
			func(j *job) { j.r.W = -1 << 63 }, func(j *job) { j.r.H = -1 << 63 }, func(j *job) { j.r.W = 1<<63 - 1 }, func(j *job) { j.r.H = 1<<63 - 1 }, func(j *job) { j.r.W, j.r.H = 1<<32, 1<<32 }, func(j *job) { j.r.W, j.r.H = 1<<62, 0 },
		}},
		{api.ErrFar, []func(j *job){
			func(j *job) { j.r.X = 1<<40 + 1 }, func(j *job) { j.r.X = -1<<40 - 1 }, func(j *job) { j.r.Y = 1<<40 + 1 }, func(j *job) { j.r.Y = -1<<40 - 1 }, func(j *job) { j.r.X = 1<<63 - 1 }, func(j *job) { j.r.Y = -1 << 63 },
		}},
		{api.ErrText, []func(j *job){
			func(j *job) { j.r.W, j.r.H = 1<<16, 1<<16 }, func(j *job) { j.r.W, j.r.H = 1<<16, 32 }, func(j *job) { j.r.W, j.r.H = 32, 1<<16 },
		}},
	}
}

// farCells put a cell where none may be.
func farCells() []func(j *job) {
	var list []func(j *job)
	for _, n := range farNumbers {
		list = append(list,
			func(j *job) { j.cells = append(j.cells, cell(n, 0, 1)) },
			func(j *job) { j.cells = append([]api.Cell{cell(0, n, 255)}, j.cells...) },
			func(j *job) { j.cells = slices.Insert(slices.Clone(j.cells), 1, cell(n, n, 2)) },
		)
	}
	return list
}

func TestGoodJobsAreDone(t *testing.T) {
	for _, j := range []job{
		good(), {}, {r: rect(0, 0, 9, 9)}, {cells: line(-3, -3, 9, 7)}, {cells: []api.Cell{cell(1<<40, 1<<40, 1), cell(-1<<40, -1<<40, 255), cell(1<<40, -1<<40, 1), cell(-1<<40, 1<<40, 2)}, r: rect(0, 0, 3, 3)},
		{r: rect(1<<40, 1<<40, 3, 3)}, {r: rect(-1<<40, -1<<40, 3, 3)}, {r: rect(0, 0, 1<<16, 0)}, {r: rect(0, 0, 0, 1<<16)}, {r: rect(0, 0, 1<<16, 15)}, {r: rect(0, 0, 15, 1<<16)},
		{cells: []api.Cell{cell(1, 0, 1), cell(0, 1, 1)}, r: rect(0, 0, 2, 2)}, // the numbers of the one are the other's
	} {
		if _, e := plain.Write(j.cells, j.r); e != api.OK {
			t.Errorf("Write(%v; %v): %d", j.cells, j.r, e)
		}
		if _, e := plain.Halves(j.cells, j.r); e != api.OK {
			t.Errorf("Halves(%v; %v): %d", j.cells, j.r, e)
		}
	}
}

// TestFaults: each by itself, and with each that is looked for behind it.
func TestFaults(t *testing.T) {
	for i, f := range faults() {
		for _, spoil := range f.spoil {
			j := good()
			spoil(&j)
			neither(t, j.cells, j.r, f.code)
			for _, later := range faults()[i+1:] {
				for _, more := range later.spoil {
					j := good()
					more(&j)
					spoil(&j)
					neither(t, j.cells, j.r, f.code)
				}
			}
		}
	}
}

// TestSidesThatMayNotBeCountAheadOfTheText: where both are wrong.
func TestSidesThatMayNotBeCountAheadOfTheText(t *testing.T) {
	for _, bad := range []int{-1, -2, 1<<16 + 1, 1 << 32, -1 << 63, 1<<63 - 1} {
		for _, other := range []int{1 << 16, bad} {
			neither(t, nil, rect(0, 0, bad, other), api.ErrPicture)
			neither(t, nil, rect(0, 0, other, bad), api.ErrPicture)
			neither(t, nil, rect(1<<40+1, 1<<40+1, other, bad), api.ErrPicture)
		}
	}
}

// TestFarCellsCountAheadOfThoseThatStandTwice: wherever in the list they stand.
func TestFarCellsCountAheadOfThoseThatStandTwice(t *testing.T) {
	cells := []api.Cell{cell(0, 0, 1), cell(0, 0, 1), cell(1, 1, 1), cell(1<<40+1, 0, 1)}
	d := dice(11)
	for range 50 {
		neither(t, shuffled(&d, cells), rect(0, 0, 2, 2), api.ErrFar)
	}
	far := cell(1<<40+1, 1<<40+1, 3)
	neither(t, []api.Cell{far, far}, rect(0, 0, 2, 2), api.ErrFar)
}

// TestCellsOfTheStateNought: they are not looked at.
func TestCellsOfTheStateNought(t *testing.T) {
	dead := []api.Cell{cell(0, 0, 0), cell(0, 0, 0), cell(1, 0, 0)}
	for _, n := range farNumbers {
		dead = append(dead, cell(n, 0, 0), cell(0, n, 0), cell(n, n, 0), cell(n, n, 0))
	}
	writes(t, dead, rect(0, 0, 2, 2), "..\n..\n")
	halves(t, dead, rect(0, 0, 2, 2), "  \n")
	for at := range 3 {
		cells := slices.Insert([]api.Cell{cell(1, 0, 1), cell(0, 0, 2)}, at, dead...)
		writes(t, cells, rect(0, 0, 2, 2), "\u2802O\n..\n")
		halves(t, cells, rect(0, 0, 2, 2), "\u2580\u2580\n")
		neither(t, cells, rect(0, 0, -2, 2), api.ErrPicture)
		neither(t, append(cells, cell(1, 0, 2)), rect(0, 0, 2, 2), api.ErrMany)
	}
	writes(t, make([]api.Cell, api.MaxCells+9), rect(-1, -1, 2, 2), "..\n..\n")
}

// TestCellsOutsideOfTheRectangleAreLookedAt: they may not lie too far, and not twice at one place.
func TestCellsOutsideOfTheRectangleAreLookedAt(t *testing.T) {
	for _, r := range []api.Rect{{}, rect(0, 0, 2, 0), rect(0, 0, 0, 2), rect(0, 0, 2, 2), rect(1<<40, 1<<40, 2, 2)} {
		neither(t, []api.Cell{cell(50, 60, 1), cell(60, 50, 1), cell(50, 60, 2)}, r, api.ErrMany)
		neither(t, []api.Cell{cell(50, 60, 1), cell(60, 1<<40+1, 1)}, r, api.ErrFar)
		neither(t, []api.Cell{cell(-1<<40-1, 60, 1)}, r, api.ErrFar)
	}
}

// TestManyCells: a list may have more cells than a grid.
func TestManyCells(t *testing.T) {
	var cells []api.Cell
	for y := range 17 {
		cells = append(cells, line(-5, -y, 1<<16, 1)...)
	}
	writes(t, cells, rect(-7, -17, 4, 3), "....\n..OO\n..OO\n")
	halves(t, cells, rect(-7, -17, 4, 3), "  \u2584\u2584\n  \u2580\u2580\n")
	neither(t, append(cells, cell(77, -8, 1)), rect(0, 0, 2, 2), api.ErrMany)
	neither(t, append(cells, cell(77, 1<<40+1, 1)), rect(0, 0, 2, 2), api.ErrFar)
}

// TestErrorsAsTheModel: jobs by chance, some of whose numbers are off.
func TestErrorsAsTheModel(t *testing.T) {
	d := dice(12)
	seen := met{}
	for range 20000 {
		j := job{cells: d.strewn(d.living()), r: d.small()}
		for range d.below(3) {
			switch d.below(7) {
			case 0:
				j.r.W = one(&d, []int{-1, -2, 1<<16 + 1, 1 << 40, -1 << 63, 1<<63 - 1})
			case 1:
				j.r.H = one(&d, []int{-1, -2, 1<<16 + 1, 1 << 40, -1 << 63, 1<<63 - 1})
			case 2:
				j.r.X = one(&d, farNumbers)
			case 3:
				j.r.Y = one(&d, farNumbers)
			case 4:
				j.cells = append(j.cells, j.cells[:min(1, len(j.cells))]...)
			case 5:
				j.cells = append(j.cells, cell(d.below(22)-10, d.below(22)-10, uint8(d.below(3))))
			default:
				j.cells = append(j.cells, cell(one(&d, farNumbers), d.below(9), uint8(d.below(3))))
			}
		}
		want := modelCheck(j.cells, j.r)
		seen[want]++
		if want != api.OK {
			neither(t, j.cells, j.r, want)
			continue
		}
		writes(t, j.cells, j.r, modelWrite(j.cells, j.r))
	}
	seen.often(t, 1000, api.OK, api.ErrFar, api.ErrMany, api.ErrPicture)
}
