package fold_test

import (
	"vivarium/api"
	"vivarium/topo"
)

// The models say the chapter's promises once more, by other means than the package: a place is taken home by the page's maps A and B themselves, done and taken back as often as it needs, never by the page's formulas of cells.

const far = api.MaxFar

var kinds = []uint8{api.Plane, api.Torus, api.Klein, api.Cross, api.Sphere}

func at(x, y int) api.Point { return api.Point{X: x, Y: y} }

// plan takes (u, v) to (a*u + x, d*v + y); a and d are 1 or -1.
type plan struct{ a, d, x, y int }

var still = plan{a: 1, d: 1}

func (p plan) at(q api.Point) api.Point { return at(p.a*q.X+p.x, p.d*q.Y+p.y) }

// then is the plan that does q behind p.
func (p plan) then(q plan) plan {
	return plan{p.a * q.a, p.d * q.d, q.a*p.x + q.x, q.d*p.y + q.y}
}

func (p plan) back() plan { return plan{p.a, p.d, -p.a * p.x, -p.d * p.y} }

// times does p n times (below 0: takes it back so often), by doubling.
func (p plan) times(n int) plan {
	if n < 0 {
		return p.back().times(-n)
	}
	done := still
	for ; n > 0; n /= 2 {
		if n%2 == 1 {
			done = done.then(p)
		}
		p = p.then(p)
	}
	return done
}

// part is the number of the plan's linear part, by layer 5's table.
func (p plan) part() int {
	return map[[2]int]int{{1, 1}: 0, {-1, -1}: 2, {1, -1}: 4, {-1, 1}: 6}[[2]int{p.a, p.d}]
}

// glued are the page's maps A and B, in home numbers; nil: there is none.
func glued(t api.Topo) (a, b *plan) {
	w, h, s := t.W, t.H, t.Shift
	switch {
	case t.Kind == api.Torus && t.Turn == api.TurnNone:
		a, b = &plan{1, 1, w, 0}, &plan{1, 1, 0, h}
	case t.Kind == api.Torus && t.Turn == api.TurnWide:
		a, b = &plan{1, 1, w, 0}, &plan{1, 1, s, h}
	case t.Kind == api.Torus && t.Turn == api.TurnHigh:
		a, b = &plan{1, 1, w, s}, &plan{1, 1, 0, h}
	case t.Kind == api.Klein && t.Turn == api.TurnWide:
		a, b = &plan{1, 1, w, 0}, &plan{-1, 1, w - 1 + s, h}
	case t.Kind == api.Klein && t.Turn == api.TurnHigh:
		a, b = &plan{1, -1, w, h - 1 + s}, &plan{1, 1, 0, h}
	case t.Kind == api.Cross:
		a, b = &plan{1, -1, w, h - 1}, &plan{-1, 1, w - 1, h}
	}
	if w == 0 {
		a = nil
	}
	if h == 0 {
		b = nil
	}
	return a, b
}

func isGlued(t api.Topo) bool {
	return t.Kind == api.Torus || t.Kind == api.Klein || t.Kind == api.Cross
}

// home and out take places to home numbers and back.
func home(t api.Topo, p api.Point) api.Point { return at(p.X+t.W/2, p.Y+t.H/2) }
func out(t api.Topo, p api.Point) api.Point  { return at(p.X-t.W/2, p.Y-t.H/2) }

// tileOf is u divided by the side, rounded down; 0 along an endless side.
func tileOf(n, side int) int {
	if side == 0 {
		return 0
	}
	i := n / side
	if n%side < 0 {
		i--
	}
	return i
}

func tile(t api.Topo, p api.Point) (i, j int) {
	h := home(t, p)
	return tileOf(h.X, t.W), tileOf(h.Y, t.H)
}

// ofGrid tells whether p is a place of the grid.
func ofGrid(t api.Topo, p api.Point) bool {
	i, j := tile(t, p)
	return i == 0 && j == 0
}

// modelCell takes p home: by A until it lies between left and right, by B until it lies between top and bottom, and once more, if one has brought it out of the other's.
func modelCell(t api.Topo, p api.Point) api.Point {
	a, b := glued(t)
	q := home(t, p)
	for tileOf(q.X, t.W) != 0 || tileOf(q.Y, t.H) != 0 {
		if i := tileOf(q.X, t.W); i != 0 {
			q = a.times(-i).at(q)
		}
		if j := tileOf(q.Y, t.H); j != 0 {
			q = b.times(-j).at(q)
		}
	}
	return out(t, q)
}

// modelPart is how the grid is turned on the way from home to p's tile.
func modelPart(t api.Topo, p api.Point) int {
	a, b := glued(t)
	i, j := tile(t, p)
	way := still
	if a != nil {
		way = way.then(a.times(i))
	}
	if b != nil {
		way = way.then(b.times(j))
	}
	return way.part()
}

// modelSphere is what the page says of a place of the ring of a Sphere.
func modelSphere(t api.Topo, p api.Point) api.Point {
	n, q := t.W, home(t, p)
	u, v := q.X, q.Y
	switch q {
	case at(-1, -1):
		return out(t, at(0, 0))
	case at(n, n):
		return out(t, at(n-1, n-1))
	case at(n, -1):
		return out(t, at(0, n-1))
	case at(-1, n):
		return out(t, at(n-1, 0))
	case at(u, -1):
		return out(t, at(0, u))
	case at(-1, v):
		return out(t, at(v, 0))
	case at(u, n):
		return out(t, at(n-1, u))
	case at(n, v):
		return out(t, at(v, n-1))
	}
	panic("no place of the ring")
}

// smallOnes are all topologies of sides up to so many that may be.
func smallOnes(most int) []api.Topo {
	var all []api.Topo
	for _, kind := range kinds {
		for w := range most + 1 {
			for h := range most + 1 {
				for turn := range uint8(3) {
					for shift := -most; shift <= most; shift++ {
						t := api.Topo{Kind: kind, W: w, H: h, Turn: turn, Shift: shift}
						if topo.Check(t) == api.OK {
							all = append(all, t)
						}
					}
				}
			}
		}
	}
	return all
}

// greatOnes have sides of one cell, of MaxSide and of some between, endless ones, and the least and the greatest shifts.
func greatOnes() []api.Topo {
	var all []api.Topo
	sides := []int{0, 1, 2, 1000, 4099, api.MaxSide - 1, api.MaxSide}
	for _, kind := range kinds {
		for _, w := range sides {
			for _, h := range sides {
				for turn := range uint8(3) {
					for _, shift := range []int{1 - api.MaxSide, 2 - api.MaxSide, -999, -1, 0, 1, 77, 999, api.MaxSide - 2, api.MaxSide - 1} {
						t := api.Topo{Kind: kind, W: w, H: h, Turn: turn, Shift: shift}
						if topo.Check(t) == api.OK {
							all = append(all, t)
						}
					}
				}
			}
		}
	}
	return all
}

// numbersAbout are numbers at the edges of the grid and of its ring, on both sides, and some tiles away.
func numbersAbout(side int) []int {
	low := -(side / 2)
	high := low + side - 1
	numbers := []int{-far, 1 - far, 0, far - 1, far}
	for _, n := range []int{low, high, low - side, high + side, low - 2*side, high + 2*side, low - 1001*side, high + 1000*side} {
		numbers = append(numbers, n-2, n-1, n, n+1, n+2)
	}
	return numbers
}

func placesAbout(t api.Topo) []api.Point {
	var places []api.Point
	for _, x := range numbersAbout(t.W) {
		for _, y := range numbersAbout(t.H) {
			places = append(places, at(x, y))
		}
	}
	return places
}

// window are all places about the middle, up to so many away.
func window(most int) []api.Point {
	var places []api.Point
	for y := -most; y <= most; y++ {
		for x := -most; x <= most; x++ {
			places = append(places, at(x, y))
		}
	}
	return places
}

// isNear tells whether p is a place of the grid or of its ring.
func isNear(t api.Topo, p api.Point) bool {
	for dx := -1; dx <= 1; dx++ {
		for dy := -1; dy <= 1; dy++ {
			if ofGrid(t, at(p.X+dx, p.Y+dy)) {
				return true
			}
		}
	}
	return false
}

// wrongOnes are topologies that may not be, one for each of Check's errors and more.
func wrongOnes() []api.Topo {
	return []api.Topo{
		{},
		{Kind: 0, W: 3, H: 2},
		{Kind: 6, W: 3, H: 2},
		{Kind: 255},
		{Kind: api.Plane, W: -1, H: 2},
		{Kind: api.Plane, W: api.MaxSide + 1, H: 2},
		{Kind: api.Torus, W: 3, H: api.MaxSide + 1},
		{Kind: api.Torus, W: 3, H: -1},
		{Kind: api.Sphere, W: 3, H: 4},
		{Kind: api.Klein, W: 3, Turn: api.TurnWide},
		{Kind: api.Cross, H: 3},
		{Kind: api.Sphere},
		{Kind: api.Klein, W: 3, H: 2},
		{Kind: api.Plane, W: 3, H: 2, Turn: api.TurnWide},
		{Kind: api.Cross, W: 3, H: 2, Turn: api.TurnHigh},
		{Kind: api.Torus, W: 3, H: 2, Turn: 3, Shift: 1},
		{Kind: api.Torus, W: 3, H: 2, Shift: 1},
		{Kind: api.Torus, W: 3, H: 2, Turn: api.TurnWide},
		{Kind: api.Torus, W: 3, H: 2, Turn: api.TurnWide, Shift: 3},
		{Kind: api.Torus, W: 3, H: 2, Turn: api.TurnHigh, Shift: -2},
		{Kind: api.Torus, W: 3, Turn: api.TurnWide, Shift: 1},
		{Kind: api.Klein, W: 3, H: 2, Turn: api.TurnHigh, Shift: 2},
	}
}

// farPlaces have a number that is not from -MaxFar to MaxFar.
func farPlaces() []api.Point {
	var places []api.Point
	for _, n := range []int{far + 1, -far - 1, 1<<63 - 1, -1 << 63} {
		for _, m := range []int{0, 1, -far, far, n} {
			places = append(places, at(n, m), at(m, n))
		}
	}
	return places
}
