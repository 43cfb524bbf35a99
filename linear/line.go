package linear

import (
	"vivarium/api"
	"vivarium/whole"
)

// onLine has places of a line as places of the plane.
func onLine(line []int) []api.Point {
	places := make([]api.Point, len(line))
	for i, x := range line {
		places[i].X = x
	}
	return places
}

// halved is what can come to a place of the line by twos of generations, and that place. Two generations move by twice each offset (the rest is taken out again), so that even places stay apart from odd ones: those of the other kind go, and all else is half as far away.
func (s set) halved(at int) (set, int) {
	half, rest := halve(at)
	halved := make(set, len(s))
	for p := range s {
		if x, r := halve(p.X); r == rest {
			halved[api.Point{X: x}] = struct{}{}
		}
	}
	return halved, half
}

// halve rounds down, so that the numbers below 0 keep their distances too.
func halve(n int) (half, rest int) {
	half, _ = whole.Div(n, 2)
	rest, _ = whole.Mod(n, 2)
	return half, rest
}
