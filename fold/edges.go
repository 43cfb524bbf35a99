package fold

import (
	"vivarium/api"
	"vivarium/iso"
)

// The linear parts by which edges are glued, as layer 5 numbers them.
const (
	asItIs     = 0
	upsideDown = 4
	leftRight  = 6
)

// An edge tells how the grid's copy beyond it lies, in home numbers: first the linear part, then the move.
type edge struct {
	glued bool
	part  int
	x, y  int
}

// edges are the left and right edge, and the top and bottom edge.
func (g grid) edges() [2]edge {
	gluings := [...]func(grid) [2]edge{
		api.Plane:  grid.openEdges,
		api.Torus:  grid.torusEdges,
		api.Klein:  grid.kleinEdges,
		api.Cross:  grid.crossEdges,
		api.Sphere: grid.openEdges,
	}
	return gluings[g.Kind](g)
}

// openEdges: no map of the plane glues these (a Sphere's edges meet their neighbours).
func (g grid) openEdges() [2]edge {
	return [2]edge{}
}

// torusEdges: an endless side has no edge.
func (g grid) torusEdges() [2]edge {
	side, top := edge{g.W > 0, asItIs, g.W, 0}, edge{g.H > 0, asItIs, 0, g.H}
	switch g.Turn {
	case api.TurnWide:
		top.x = g.Shift
	case api.TurnHigh:
		side.y = g.Shift
	}
	return [2]edge{side, top}
}

func (g grid) kleinEdges() [2]edge {
	if g.Turn == api.TurnWide {
		return [2]edge{{true, asItIs, g.W, 0}, {true, leftRight, g.W - 1 + g.Shift, g.H}}
	}
	return [2]edge{{true, upsideDown, g.W, g.H - 1 + g.Shift}, {true, asItIs, 0, g.H}}
}

func (g grid) crossEdges() [2]edge {
	return [2]edge{{true, upsideDown, g.W, g.H - 1}, {true, leftRight, g.W - 1, g.H}}
}

// part: each edge that is crossed turns the grid as it does; crossed twice, a mirror has taken itself back.
func (s spot) part() int {
	edges := s.edges()
	lies := partOf(asItIs)
	if isOdd(s.tile.X) {
		lies, _ = iso.Then(lies, partOf(edges[0].part))
	}
	if isOdd(s.tile.Y) {
		lies, _ = iso.Then(lies, partOf(edges[1].part))
	}
	part, _ := iso.Which(lies)
	return part
}

// partOf is asked for the numbers above alone, so iso does not refuse.
func partOf(number int) api.Iso {
	m, _ := iso.Part(number)
	return m
}

// mapOf makes of an edge's map of home numbers one of places. The numbers are of the order of the sides, so no call refuses.
func (g grid) mapOf(way edge) api.Iso {
	home, _ := iso.Shift(-g.home.X, -g.home.Y)
	away, _ := iso.Shift(way.x+g.home.X, way.y+g.home.Y)
	m, _ := iso.Then(home, partOf(way.part))
	m, _ = iso.Then(m, away)
	return m
}
