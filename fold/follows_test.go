package fold_test

import (
	"maps"
	"testing"

	"vivarium/api"
	"vivarium/fold"
	"vivarium/iso"
	"vivarium/topo"
)

// P6.6 and P6.7: what follows of the others.

// gluedOnes are the small glued grids.
func gluedOnes(most int) []api.Topo {
	var all []api.Topo
	for _, a := range smallOnes(most) {
		if isGlued(a) {
			all = append(all, a)
		}
	}
	return all
}

func mustCell(t *testing.T, a api.Topo, p api.Point) api.Point {
	t.Helper()
	q, e := fold.Cell(a, p)
	if e != api.OK {
		t.Fatalf("Cell(%v, %v): %d", a, p, e)
	}
	return q
}

func TestACellIsItsOwnCell(t *testing.T) {
	look := func(a api.Topo, p api.Point) {
		q := mustCell(t, a, p)
		cell(t, a, q, q)
		if is, e := topo.Has(a, q); !is || e != api.OK {
			t.Errorf("Cell(%v, %v) = %v is no place of the grid", a, p, q)
		}
	}
	for _, a := range gluedOnes(4) {
		for _, p := range window(10) {
			look(a, p)
		}
	}
	for _, a := range greatOnes() {
		if isGlued(a) {
			for _, n := range numbersAbout(a.W) {
				look(a, at(n, -n))
				look(a, at(n, far-17))
			}
		}
	}
}

func TestTheMapsTakeAPlaceToOneOfTheSameCell(t *testing.T) {
	look := func(a api.Topo, m api.Iso, p api.Point) int {
		q, e := iso.At(m, p)
		if e != api.OK {
			return 0 // over the edge of what is near
		}
		same(t, a, p, q, true, api.OK)
		return 1
	}
	seen := 0
	for _, a := range append(gluedOnes(4), greatOnes()...) {
		ms, _ := fold.Glue(a)
		for _, m := range ms {
			back, e := iso.Back(m)
			if e != api.OK {
				t.Fatalf("Back of %v of %v: %d", m, a, e)
			}
			for _, x := range []int{-far, -1000, -3, -2, -1, 0, 1, 2, 5, 1 << 17, far} {
				for _, y := range []int{-far, -7, -1, 0, 1, 2, 99999, far} {
					seen += look(a, m, at(x, y)) + look(a, back, at(x, y))
				}
			}
		}
	}
	if seen < 50000 {
		t.Error(seen)
	}
}

// goHome goes back by A and B, tile by tile; by A first, or by B first.
func goHome(t *testing.T, a api.Topo, p api.Point, first int) api.Point {
	t.Helper()
	ms, _ := fold.Glue(a)
	if len(ms) != 2 {
		t.Fatalf("Glue(%v) = %v", a, ms)
	}
	for steps := 0; ; steps++ {
		var tiles [2]int
		tiles[0], tiles[1] = tile(a, p)
		if tiles == [2]int{} {
			return p
		}
		which := first
		if tiles[which] == 0 {
			which = 1 - which
		}
		m := ms[which]
		if tiles[which] > 0 {
			m, _ = iso.Back(m)
		}
		q, e := iso.At(m, p)
		if e != api.OK || steps > 10000 {
			t.Fatalf("%v by %v of %v: %d", p, m, a, e)
		}
		p = q
	}
}

func TestWhoGoesBackTileByTileComesToTheCell(t *testing.T) {
	for _, a := range gluedOnes(4) {
		if a.W == 0 || a.H == 0 {
			continue
		}
		for _, p := range window(9) {
			want := mustCell(t, a, p)
			for first := range 2 {
				if q := goHome(t, a, p, first); q != want {
					t.Fatalf("Cell(%v, %v) = %v, on foot %v", a, p, want, q)
				}
			}
		}
		for _, p := range []api.Point{at(-900, 31), at(1001, -5), at(3, 777), at(-40, -1500), at(333, 444)} {
			cell(t, a, p, goHome(t, a, p, 0))
			cell(t, a, p, goHome(t, a, p, 1))
		}
	}
}

func TestRingIsCellOfAGluedGrid(t *testing.T) {
	seen := 0
	for _, a := range gluedOnes(5) {
		for _, p := range window(6) {
			if isNear(a, p) {
				ring(t, a, p, mustCell(t, a, p))
				seen++
			}
		}
	}
	if seen < 10000 {
		t.Error(seen)
	}
}

// one step within a tile is that step turned by the tile's part, for the cells; where there is a shift it may go over the turned side's edge.
func isStep(a api.Topo, got, want api.Point) bool {
	dx, dy := got.X-want.X, got.Y-want.Y
	if a.Turn == api.TurnWide && a.Shift != 0 && (dx == a.W || dx == -a.W) {
		dx = 0
	}
	if a.Turn == api.TurnHigh && a.Shift != 0 && (dy == a.H || dy == -a.H) {
		dy = 0
	}
	return dx == 0 && dy == 0
}

func lookAtSteps(t *testing.T, a api.Topo, p api.Point) int {
	t.Helper()
	seen := 0
	k, e := fold.Part(a, p)
	if e != api.OK {
		t.Fatalf("Part(%v, %v): %d", a, p, e)
	}
	m, _ := iso.Part(k)
	here := mustCell(t, a, p)
	i, j := tile(a, p)
	for _, d := range window(1) {
		q := at(p.X+d.X, p.Y+d.Y)
		if k, l := tile(a, q); k != i || l != j {
			continue
		}
		there := mustCell(t, a, q)
		want, _ := iso.At(m, d)
		if got := at(there.X-here.X, there.Y-here.Y); !isStep(a, got, want) {
			t.Errorf("%v: from %v to %v is %v to %v, by the part %d", a, p, q, here, there, k)
		}
		seen++
	}
	return seen
}

func TestStepsWithinATile(t *testing.T) {
	seen := 0
	for _, a := range gluedOnes(5) {
		for _, p := range window(11) {
			seen += lookAtSteps(t, a, p)
		}
	}
	for _, a := range greatOnes() {
		if isGlued(a) {
			for _, n := range numbersAbout(a.H) {
				if n != far && n != -far {
					seen += lookAtSteps(t, a, at(3*a.W+5, n)) + lookAtSteps(t, a, at(far-2*a.W-1, n))
				}
			}
		}
	}
	if seen < 100000 {
		t.Error(seen)
	}
}

// beside are the cells that the eight neighbour places of a place of the grid are, and how often.
func beside(t *testing.T, a api.Topo, p api.Point) map[api.Point]int {
	t.Helper()
	cells := map[api.Point]int{}
	for _, d := range window(1) {
		if d == at(0, 0) {
			continue
		}
		q, is, e := fold.Ring(a, at(p.X+d.X, p.Y+d.Y))
		if e != api.OK {
			t.Fatalf("Ring(%v, %v) beside %v: %d", a, d, p, e)
		}
		if is {
			cells[q]++
		}
	}
	return cells
}

func counts(t *testing.T, a api.Topo, p api.Point, want map[api.Point]int) {
	t.Helper()
	if got := beside(t, a, p); !maps.Equal(got, want) {
		t.Errorf("beside %v of %v: %v, not %v", p, a, got, want)
	}
}

// On grids with an endless side the middle of it is looked at.
func TestBesideIsMutual(t *testing.T) {
	seen := map[uint8]int{}
	for _, a := range smallOnes(6) {
		all := map[api.Point]map[api.Point]int{}
		for _, p := range window(5) {
			if ofGrid(a, p) {
				all[p] = beside(t, a, p)
			}
		}
		for p, cells := range all {
			if (a.W == 0 && (p.X == 5 || p.X == -5)) || (a.H == 0 && (p.Y == 5 || p.Y == -5)) {
				continue
			}
			for q, n := range cells {
				if all[q][p] != n {
					t.Errorf("%v: %v is %d times beside %v, which is %d times beside it", a, q, n, p, all[q][p])
				}
				seen[a.Kind]++
			}
		}
	}
	for _, kind := range kinds {
		if seen[kind] < 100 {
			t.Errorf("kind %d: %d were seen", kind, seen[kind])
		}
	}
}
