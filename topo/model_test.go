package topo_test

import (
	"math"
	"math/big"
	"regexp"
	"strings"

	"vivarium/api"
)

// The models say the chapter's promises once more, by other means than the package: Check by a list of conditions over numbers of any size, Parse by patterns.

var kinds = []uint8{api.Plane, api.Torus, api.Klein, api.Cross, api.Sphere}

// everyTopo goes through topologies about all edges, most of which may not be.
func everyTopo(yield func(api.Topo) bool) {
	lengths := []int{math.MinInt, -api.MaxSide, -1, 0, 1, 2, 3, 4, api.MaxSide - 1, api.MaxSide, api.MaxSide + 1, math.MaxInt}
	shifts := []int{math.MinInt, math.MinInt + 1, -api.MaxSide - 1, -api.MaxSide, 1 - api.MaxSide, -4, -3, -2, -1, 0, 1, 2, 3, 4, api.MaxSide - 1, api.MaxSide, api.MaxSide + 1, math.MaxInt}
	for _, kind := range append([]uint8{0, api.Sphere + 1, 255}, kinds...) {
		for _, w := range lengths {
			for _, h := range lengths {
				for _, turn := range []uint8{api.TurnNone, api.TurnWide, api.TurnHigh, 3, 255} {
					for _, shift := range shifts {
						if !yield(api.Topo{Kind: kind, W: w, H: h, Turn: turn, Shift: shift}) {
							return
						}
					}
				}
			}
		}
	}
}

// modelCheck is Check's answer: the faults in their order, the first that applies.
func modelCheck(t api.Topo) api.Errno {
	is := func(ks ...uint8) bool { return strings.Contains(string(ks), string([]uint8{t.Kind})) }
	turned := big.NewInt(int64(t.W))
	if t.Turn == api.TurnHigh {
		turned = big.NewInt(int64(t.H))
	}
	worth := new(big.Int).Abs(big.NewInt(int64(t.Shift)))
	for _, f := range []struct {
		applies bool
		e       api.Errno
	}{
		{!is(kinds...), api.ErrKind},
		{t.W < 0 || t.W > 65536, api.ErrSide},
		{t.H < 0 || t.H > 65536, api.ErrSide},
		{is(api.Sphere) && t.W != t.H, api.ErrSide},
		{is(api.Klein, api.Cross, api.Sphere) && t.W*t.H == 0, api.ErrEndless},
		{t.Turn > api.TurnHigh, api.ErrTwist},
		{is(api.Plane, api.Cross, api.Sphere) && t.Turn != api.TurnNone, api.ErrTwist},
		{is(api.Klein) && t.Turn == api.TurnNone, api.ErrTwist},
		{t.Turn == api.TurnNone && t.Shift != 0, api.ErrShift},
		{t.Turn != api.TurnNone && worth.Cmp(turned) >= 0, api.ErrShift},
		{is(api.Torus) && t.Turn != api.TurnNone && t.Shift == 0, api.ErrShift},
		{is(api.Torus) && t.Turn != api.TurnNone && t.W*t.H == 0, api.ErrShift},
	} {
		if f.applies {
			return f.e
		}
	}
	return api.OK
}

const (
	wholePart = `([0-9]+)(\*?)(?:([+-])([0-9]+))?`
	someOfOne = `[0-9]+\*?(?:[+-][0-9]*)?`
)

var (
	wholeText = regexp.MustCompile(`^(?:([PTptKCkc])` + wholePart + `(?:,` + wholePart + `)?|([PTpt])|([Ss])([0-9]+))$`)
	someOfIt  = regexp.MustCompile(`^(?:[PTKCptkc](?:` + wholePart + `,)?(?:` + someOfOne + `)?|[Ss][0-9]*)?`)
)

func init() { someOfIt.Longest() }

// modelForm is the fault of form and its place: behind the longest piece that could go on as a topology's text.
func modelForm(s string) (int, api.Errno) {
	if wholeText.MatchString(s) {
		return 0, api.OK
	}
	good := someOfIt.FindString(s)
	switch {
	case good == "":
		return 0, api.ErrKind
	case strings.ContainsAny(good[len(good)-1:], "PTKCSptkcs,"):
		return len(good), api.ErrSide
	case strings.ContainsAny(good[len(good)-1:], "+-"):
		return len(good), api.ErrShift
	}
	return len(good), api.ErrMore
}

// side is what a text says of one side, as pieces of it: a place is below 0 where there is none.
type side struct {
	number, shift *big.Int
	at, star      int
	sign          int
	minus         bool
}

// sideOf is a side by the places of a match, four groups from the place g on.
func sideOf(s string, m []int, g int) side {
	d := side{number: numberOf(s[m[2*g]:m[2*g+1]]), shift: new(big.Int), at: m[2*g], star: -1, sign: m[2*g+4]}
	if m[2*g+3] > m[2*g+2] {
		d.star = m[2*g+2]
	}
	if d.sign >= 0 {
		d.shift = numberOf(s[m[2*g+6]:m[2*g+7]])
		d.minus = s[d.sign] == '-'
	}
	return d
}

func numberOf(digits string) *big.Int {
	n, _ := new(big.Int).SetString(digits, 10)
	return n
}

// modelParse is Parse's answer.
func modelParse(s string) (api.Topo, int, api.Errno) {
	if at, e := modelForm(s); e != api.OK {
		return api.Topo{}, at, e
	}
	letter := strings.ToUpper(s[:1])
	kind := kinds[strings.Index("PTKCS", letter)]
	m := wholeText.FindStringSubmatchIndex(s)
	var said []side
	switch {
	case len(s) == 1:
		return api.Topo{Kind: kind}, 0, api.OK
	case letter == "S":
		said = []side{{number: numberOf(s[1:]), shift: new(big.Int), at: 1, star: -1, sign: -1}}
	case m[12] >= 0:
		said = []side{sideOf(s, m, 2), sideOf(s, m, 6)}
	default:
		said = []side{sideOf(s, m, 2)}
	}
	if at, e := modelSense(letter, said, len(s)); e != api.OK {
		return api.Topo{}, at, e
	}
	return modelTopo(kind, said), 0, api.OK
}

// modelSense is the fault of sense and its place.
func modelSense(letter string, said []side, end int) (int, api.Errno) {
	zero := func(n *big.Int) bool { return n.Sign() == 0 }
	for _, d := range said {
		if d.number.Cmp(big.NewInt(65536)) > 0 {
			return d.at, api.ErrSide
		}
	}
	for _, d := range said {
		if zero(d.number) && strings.Contains("KCS", letter) {
			return d.at, api.ErrEndless
		}
	}
	var stars, signs []int
	for _, d := range said {
		if d.star >= 0 {
			stars = append(stars, d.star)
		}
	}
	switch {
	case letter != "K" && len(stars) > 0:
		return stars[0], api.ErrTwist
	case len(stars) == 2:
		return stars[1], api.ErrTwist
	case letter == "K" && len(stars) == 0:
		return end, api.ErrTwist
	}
	for _, d := range said {
		if d.sign < 0 {
			continue
		}
		signs = append(signs, d.sign)
		if strings.Contains("PC", letter) || letter == "K" && d.star < 0 || d.shift.Cmp(d.number) >= 0 ||
			letter == "T" && (zero(d.shift) || zero(said[0].number) || zero(said[len(said)-1].number)) || len(signs) == 2 {
			return d.sign, api.ErrShift
		}
	}
	return 0, api.OK
}

// modelTopo is the topology of a text without a fault.
func modelTopo(kind uint8, said []side) api.Topo {
	t := api.Topo{Kind: kind, W: int(said[0].number.Int64()), H: int(said[len(said)-1].number.Int64())}
	for i, d := range said {
		if d.star < 0 && d.sign < 0 {
			continue
		}
		t.Turn = uint8(i + 1)
		t.Shift = int(d.shift.Int64())
		if d.minus {
			t.Shift = -t.Shift
		}
	}
	return t
}
