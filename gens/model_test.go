package gens_test

import (
	"math"
	"math/big"
	"regexp"
	"strconv"
	"strings"
	"testing"

	"vivarium/api"
	"vivarium/gens"
	"vivarium/life"
)

// The models read texts by patterns and great numbers, and take bits as powers of two that are added up and divided, without operations on bits. Of chapter 8's things they ask package life, as the chapter does.

var all = []uint8{api.Moore, api.Neumann, api.Hex}

// most has the greatest counts, as chapter 8 tells them.
var most = map[uint8]int{api.Moore: 8, api.Neumann: 4, api.Hex: 6}

// ends has what stands at a neighbourhood's text's end, in the one form.
var ends = map[uint8]string{api.Moore: "", api.Neumann: "V", api.Hex: "H"}

// forms has what may stand ahead of the number.
var forms = []string{"", "C", "c", "G", "g"}

// power is 2 to the power of n.
func power(n int) int {
	p := 1
	for range n {
		p *= 2
	}
	return p
}

// worth is the number whose bits are the counts.
func worth(counts ...int) uint16 {
	sum := 0
	for _, n := range counts {
		sum += power(n)
	}
	return uint16(sum)
}

// counts are the numbers that a list of digits tells.
func counts(list string) []int {
	var told []int
	for _, r := range list {
		told = append(told, int(r-'0'))
	}
	return told
}

// list is the digits of the counts, rising.
func list(bits uint16) string {
	text := ""
	for n := range 16 {
		if int(bits)/power(n)%2 == 1 {
			text += strconv.Itoa(n)
		}
	}
	return text
}

// rule is the rule with these counts, as digits.
func rule(h uint8, born, stay string, states int) api.Gens {
	return api.Gens{Life: api.Life{Hood: h, Born: worth(counts(born)...), Stay: worth(counts(stay)...)}, States: states}
}

// everyLife goes through all rules of births and stays of one neighbourhood.
func everyLife(h uint8) func(yield func(api.Life) bool) {
	return func(yield func(api.Life) bool) {
		sets := power(most[h] + 1)
		for born := range sets {
			for stay := range sets {
				if !yield(api.Life{Hood: h, Born: uint16(born), Stay: uint16(stay)}) {
					return
				}
			}
		}
	}
}

// someLives are rules of births and stays of one neighbourhood in which each set of counts stands once as Born and once as Stay.
func someLives(h uint8) []api.Life {
	var lives []api.Life
	sets := power(most[h] + 1)
	for born := range sets {
		lives = append(lives, api.Life{Hood: h, Born: uint16(born), Stay: uint16((born*37 + 11) % sets)})
	}
	return lives
}

// wrongLives has rules of births and stays that may not be, with their errors.
func wrongLives() map[api.Life]api.Errno {
	wrong := map[api.Life]api.Errno{}
	for _, h := range []uint8{0, 4, 5, 9, 128, 254, 255} {
		for _, bits := range []uint16{0, 8, math.MaxUint16} {
			wrong[api.Life{Hood: h, Born: bits}] = api.ErrHood
			wrong[api.Life{Hood: h, Stay: bits}] = api.ErrHood
		}
	}
	for _, h := range all {
		for n := most[h] + 1; n < 16; n++ {
			wrong[api.Life{Hood: h, Born: worth(n)}] = api.ErrCount
			wrong[api.Life{Hood: h, Stay: worth(n)}] = api.ErrCount
		}
		wrong[api.Life{Hood: h, Born: math.MaxUint16, Stay: math.MaxUint16}] = api.ErrCount
	}
	return wrong
}

// noStates are numbers of states that no rule has.
var noStates = []int{math.MinInt, -256, -2, -1, 0, 1, 257, 258, 512, 1 << 32, 1<<32 + 4, math.MaxInt}

// modelNext is the chapter's P9.3 for what may be asked.
func modelNext(g api.Gens, state, living int) int {
	is := func(bits uint16) bool { return int(bits)/power(living)%2 == 1 }
	switch {
	case state == 0 && is(g.Life.Born), state == 1 && is(g.Life.Stay):
		return 1
	case state == 0:
		return 0
	}
	return (state + 1) % g.States
}

// begun fits the longest beginning of a text without letters of which all bytes can stand in the two lists; its groups are the lists and the slash that ends them.
var begun = regexp.MustCompile(`^([0-9]*)(?:/([0-9]*)(/)?)?`)

// told fits what may stand from the second slash on, as far as it goes; its group is the number.
var told = regexp.MustCompile(`^/[CcGg]?([0-9]*)`)

// lettered fits a text of letters, parted ahead of its second slash.
var lettered = regexp.MustCompile(`(?s)^([Bb][^/]*(?:/[^/]*)?)(/.*)?$`)

// modelParse reads a text of at most MaxText bytes.
func modelParse(s string) (api.Gens, int, api.Errno) {
	read := modelLists
	if lettered.MatchString(s) {
		read = modelLettered
	}
	l, rest, at, e := read(s)
	if e != api.OK {
		return api.Gens{}, at, e
	}
	states, at := modelStates(rest)
	if states == 0 {
		return api.Gens{}, len(s) - len(rest) + at, api.ErrGens
	}
	return api.Gens{Life: l, States: states}, 0, api.OK
}

// modelLettered reads what stands ahead of the second slash, and answers the rest.
func modelLettered(s string) (l api.Life, rest string, at int, e api.Errno) {
	parts := lettered.FindStringSubmatch(s)
	l, at, e = life.Parse(parts[1])
	return l, parts[2], at, e
}

// modelLists reads the two lists, and answers the rest from the second slash on.
func modelLists(s string) (l api.Life, rest string, at int, e api.Errno) {
	groups := begun.FindStringSubmatchIndex(s)
	for _, g := range []int{2, 4} {
		for i := groups[g]; i < groups[g+1]; i++ {
			if strings.Contains(s[groups[g]:i], s[i:i+1]) {
				return api.Life{}, "", i, api.ErrTwice
			}
		}
	}
	if groups[6] < 0 {
		return api.Life{}, "", groups[1], api.ErrLife
	}
	if at := strings.Index(s[:groups[6]], "9"); at >= 0 {
		return api.Life{}, "", at, api.ErrCount
	}
	stay, born := counts(s[groups[2]:groups[3]]), counts(s[groups[4]:groups[5]])
	return api.Life{Hood: api.Moore, Born: worth(born...), Stay: worth(stay...)}, s[groups[6]:], 0, api.OK
}

// modelStates is how many states a text from its second slash on tells, or 0 and the place of its fault there.
func modelStates(rest string) (states, at int) {
	groups := told.FindStringSubmatchIndex(rest)
	if groups == nil {
		return 0, 0
	}
	if groups[1] < len(rest) || groups[2] == groups[3] {
		return 0, groups[1]
	}
	n, _ := new(big.Int).SetString(rest[groups[2]:], 10)
	if n.Cmp(big.NewInt(2)) < 0 || n.Cmp(big.NewInt(256)) > 0 {
		return 0, groups[2]
	}
	return int(n.Int64()), 0
}

func mustParse(t *testing.T, s string) api.Gens {
	t.Helper()
	g, at, e := gens.Parse(s)
	if at != 0 || e != api.OK {
		t.Fatalf("Parse(%q): %d, %d", s, at, e)
	}
	return g
}

func mustPrint(t *testing.T, g api.Gens) string {
	t.Helper()
	s, e := gens.Print(g)
	if e != api.OK {
		t.Fatalf("Print(%v): %d", g, e)
	}
	return s
}

func mustNext(t *testing.T, g api.Gens, state uint8, living int) uint8 {
	t.Helper()
	then, e := gens.Next(g, state, living)
	if e != api.OK {
		t.Fatalf("Next(%v, %d, %d): %d", g, state, living, e)
	}
	return then
}
