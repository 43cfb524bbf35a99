package packed_test

import (
	"math"
	"slices"
	"testing"

	"vivarium/api"
	"vivarium/packed"
)

// P16.1

// longest is a side and its ring.
const longest = api.MaxSide + 2

// lengths are numbers of bits about the ends of words: of the rows that are handed in, and of the one that is answered.
func lengths() []int {
	return []int{3, 4, 5, 62, 63, 64, 65, 66, 67, 68, 127, 128, 129, 130, 131, 132, 191, 192, 193, 194, 195, 1000}
}

// isLine holds Line against the model.
func isLine(t *testing.T, l api.Life, rows [3][]bool) {
	t.Helper()
	r := mustLine(t, l, rowOf(rows[0]), rowOf(rows[1]), rowOf(rows[2]))
	if got, want := bitsOf(r), modelLine(l, rows); !slices.Equal(got, want) {
		t.Errorf("Line(%v) of %d bits: %v, not %v", l, len(rows[0]), short(got), short(want))
	}
}

// TestLineOfEachNeighbourhoodOfOneCell: all 512 ways in which nine places may live, so each count from none to all, by rules that know one count alone and by others.
func TestLineOfEachNeighbourhoodOfOneCell(t *testing.T) {
	for _, l := range allRules() {
		for places := range 512 {
			var rows [3][]bool
			for i := range 9 {
				rows[i/3] = append(rows[i/3], places>>i&1 == 1)
			}
			isLine(t, l, rows)
		}
	}
}

// TestLineAtEachOffset: a place alone is the neighbour of the cells that have it at one of their offsets, and of no others, wherever it stands in a word.
func TestLineAtEachOffset(t *testing.T) {
	for _, near := range hoods {
		l := api.Life{Hood: near, Born: 1 << 1}
		for _, n := range []int{3, 4, 65, 66, 67, 130, 131} {
			for y := range 3 {
				for x := range n {
					rows := [3][]bool{make([]bool, n), make([]bool, n), make([]bool, n)}
					rows[y][x] = true
					want := make([]bool, n-2)
					for _, d := range offsets[near] {
						if i := x - 1 - d.X; 1+d.Y == y && i >= 0 && i < n-2 {
							want[i] = true
						}
					}
					got := bitsOf(mustLine(t, l, rowOf(rows[0]), rowOf(rows[1]), rowOf(rows[2])))
					if !slices.Equal(got, want) {
						t.Fatalf("neighbourhood %d, (%d, %d) of %d: %v, not %v", near, x, y, n, got, want)
					}
				}
			}
		}
	}
}

// TestLineOfRowsOfEachLength: rows drawn at random, with few and with many bits, and full ones.
func TestLineOfRowsOfEachLength(t *testing.T) {
	d := dice(17)
	for _, l := range allRules() {
		for _, n := range lengths() {
			for ofFour := range 5 {
				isLine(t, l, [3][]bool{d.bits(n, ofFour), d.bits(n, ofFour), d.bits(n, ofFour)})
			}
			isLine(t, l, [3][]bool{d.bits(n, 4), d.bits(n, 0), d.bits(n, 4)})
			isLine(t, l, [3][]bool{d.bits(n, 0), d.bits(n, 4), d.bits(n, 0)})
		}
	}
}

// TestLineOfTheLongestRows: a side and its ring, and a little less.
func TestLineOfTheLongestRows(t *testing.T) {
	d := dice(19)
	for _, l := range fewRules() {
		for _, n := range []int{longest, longest - 1, longest - 2, longest - 3} {
			isLine(t, l, [3][]bool{d.bits(n, 2), d.bits(n, 1), d.bits(n, 2)})
		}
	}
}

// TestLineHasNothingBehindItsLastCell: births at none, at all and at each count, of empty rows, of full ones, and of rows whose last places alone live.
func TestLineHasNothingBehindItsLastCell(t *testing.T) {
	for _, near := range hoods {
		for _, n := range lengths() {
			rest := (n - 2) % 64
			for _, l := range []api.Life{{Hood: near, Born: 1}, {Hood: near, Born: upTo(near), Stay: upTo(near)}} {
				r := mustLine(t, l, blank(n), blank(n), blank(n))
				last := r.Words[len(r.Words)-1]
				if len(r.Words) != (n-2+63)/64 || rest > 0 && last>>rest != 0 {
					t.Errorf("%v of %d bits: %d words, the last one %x", l, n, len(r.Words), last)
				}
				if ones := bitsOf(r); slices.Contains(ones, false) {
					t.Errorf("%v of %d bits: %v", l, n, short(ones))
				}
				ends := make([]bool, n)
				ends[n-1], ends[n-2] = true, true
				full := slices.Repeat([]bool{true}, n)
				isLine(t, l, [3][]bool{ends, ends, ends})
				isLine(t, l, [3][]bool{full, full, full})
			}
		}
	}
}

// wrongRows may not be, each for another reason or at another edge.
func wrongRows() []api.Row {
	over := make([]uint64, (longest+1+63)/64)
	long := make([]uint64, (longest+63)/64)
	long[len(long)-1] = 4
	return []api.Row{
		{N: -1}, {N: -64}, {N: math.MinInt}, {N: math.MaxInt}, {N: math.MaxInt - 62},
		{N: -1, Words: []uint64{0}}, {N: 0, Words: []uint64{0}},
		{N: 3}, {N: 3, Words: []uint64{8}}, {N: 3, Words: []uint64{5, 0}},
		{N: 5, Words: []uint64{1 << 63}}, {N: 63, Words: []uint64{1 << 63}},
		{N: 64}, {N: 64, Words: []uint64{0, 0}},
		{N: 65, Words: []uint64{0}}, {N: 65, Words: []uint64{0, 2}}, {N: 66, Words: []uint64{0, 0, 0}},
		{N: longest + 1, Words: over}, {N: longest, Words: over[:len(over)-1]}, {N: longest, Words: long},
	}
}

// refusesLine looks whether Line answers this error and nothing beside it.
func refusesLine(t *testing.T, l api.Life, rows [3]api.Row, want api.Errno) {
	t.Helper()
	r, e := packed.Line(l, rows[0], rows[1], rows[2])
	if e != want || r.N != 0 || r.Words != nil {
		t.Errorf("Line(%v) of %d, %d, %d bits: N %d, %d words, error %d, not %d alone", l, rows[0].N, rows[1].N, rows[2].N, r.N, len(r.Words), e, want)
	}
}

// TestLineRefusesRows: each of the three that may not be or is too short, beside fine ones of its length and of others, beside one more that is wrong.
func TestLineRefusesRows(t *testing.T) {
	for _, wrong := range append(wrongRows(), blank(0), blank(1), blank(2), row("1"), row("11")) {
		for at := range 3 {
			for _, other := range []api.Row{blank(3), blank(4), blank(65), blank(0), blank(2), wrong} {
				for _, third := range []api.Row{other, blank(3), blank(5)} {
					var rows [3]api.Row
					rows[at], rows[(at+1)%3], rows[(at+2)%3] = wrong, other, third
					refusesLine(t, conway(), rows, api.ErrRow)
				}
			}
		}
	}
}

// TestLineRefusesUnlikeRows: any one of the three, or all, longer or shorter by one bit or by a word.
func TestLineRefusesUnlikeRows(t *testing.T) {
	all := []int{3, 4, 5, 63, 64, 65, 66, 67, 128, 129, longest - 1, longest}
	for _, l := range []api.Life{conway(), {Hood: api.Neumann}, {Hood: api.Hex}} {
		for _, a := range all {
			for _, b := range all {
				for _, c := range all {
					rows := [3]api.Row{blank(a), blank(b), blank(c)}
					if a != b || b != c {
						refusesLine(t, l, rows, api.ErrUnlike)
					} else {
						mustLine(t, l, rows[0], rows[1], rows[2])
					}
				}
			}
		}
	}
}

// TestLineRefusesRules: ahead of what is wrong with the rows.
func TestLineRefusesRules(t *testing.T) {
	for _, l := range wrongRules() {
		for _, rows := range [][3]api.Row{
			{blank(3), blank(3), blank(3)},
			{blank(70), blank(70), blank(70)},
			{blank(2), blank(2), blank(2)},
			{{}, {}, {}},
			{blank(3), blank(4), blank(5)},
			{wrongRows()[0], blank(3), blank(4)},
			{blank(3), blank(3), {N: 3, Words: []uint64{8}}},
		} {
			refusesLine(t, l, rows, api.ErrRule)
		}
	}
}
