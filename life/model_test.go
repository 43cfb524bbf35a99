package life_test

import (
	"math"
	"regexp"
	"slices"
	"strings"
	"testing"

	"vivarium/api"
	"vivarium/life"
)

// The models read texts by patterns, and take bits as powers of two that are added up and divided, without operations on bits.

var all = []uint8{api.Moore, api.Neumann, api.Hex}

// most has the greatest counts, as the chapter tells them.
var most = map[uint8]int{api.Moore: 8, api.Neumann: 4, api.Hex: 6}

// ends has what stands at a text's end.
var ends = map[uint8][]string{api.Moore: {""}, api.Neumann: {"V", "v"}, api.Hex: {"H", "h"}}

// none has every number that is no neighbourhood.
func none() []uint8 {
	list := []uint8{0}
	for h := 4; h <= 255; h++ {
		list = append(list, uint8(h))
	}
	return list
}

// power is 2 to the power of n.
func power(n int) int {
	p := 1
	for range n {
		p *= 2
	}
	return p
}

// worth is the number whose bits are the counts.
func worth(counts ...int) uint16 {
	sum := 0
	for _, n := range counts {
		sum += power(n)
	}
	return uint16(sum)
}

// rule is the rule of one neighbourhood with these counts.
func rule(h uint8, born, stay []int) api.Life {
	return api.Life{Hood: h, Born: worth(born...), Stay: worth(stay...)}
}

// everyRule goes through all rules of one neighbourhood that may be.
func everyRule(h uint8) func(yield func(api.Life) bool) {
	return func(yield func(api.Life) bool) {
		sets := power(most[h] + 1)
		for born := range sets {
			for stay := range sets {
				if !yield(api.Life{Hood: h, Born: uint16(born), Stay: uint16(stay)}) {
					return
				}
			}
		}
	}
}

// wrongRules has rules that may not be, with the errors of Check.
func wrongRules() map[api.Life]api.Errno {
	wrong := map[api.Life]api.Errno{}
	for _, h := range none() {
		for _, bits := range []uint16{0, 8, math.MaxUint16} {
			wrong[api.Life{Hood: h, Born: bits}] = api.ErrHood
			wrong[api.Life{Hood: h, Stay: bits}] = api.ErrHood
		}
	}
	for _, h := range all {
		for n := most[h] + 1; n < 16; n++ {
			wrong[rule(h, []int{n}, nil)] = api.ErrCount
			wrong[rule(h, nil, []int{n})] = api.ErrCount
			wrong[rule(h, []int{0, n}, []int{1, n})] = api.ErrCount
		}
		wrong[api.Life{Hood: h, Born: math.MaxUint16, Stay: math.MaxUint16}] = api.ErrCount
	}
	return wrong
}

// modelNext is 1 where the bit of so many is 1.
func modelNext(l api.Life, state uint8, living int) uint8 {
	bits := l.Born
	if state == 1 {
		bits = l.Stay
	}
	return uint8(int(bits) / power(living) % 2)
}

// begun fits the longest beginning of a text of which all bytes can stand where they do; its groups are the two lists and the letter.
var begun = regexp.MustCompile(`^(?:[Bb]([0-9]*)(?:/(?:[Ss]([0-9]*)([VvHh]?))?)?)?`)

// wholly fits a text that may be, but for digits that stand twice or are too great.
var wholly = regexp.MustCompile(`^[Bb]([0-9]*)/[Ss]([0-9]*)([VvHh]?)$`)

// twice is the place in a list of the first digit that stands ahead of it already, or -1.
func twice(list string) int {
	return slices.IndexFunc(indexes(list), func(i int) bool { return strings.Contains(list[:i], list[i:i+1]) })
}

// beyond is the place in a list of the first digit above the greatest count, or -1.
func beyond(list string, greatest int) int {
	return strings.IndexFunc(list, func(r rune) bool { return int(r-'0') > greatest })
}

func indexes(list string) []int {
	var at []int
	for i := range len(list) {
		at = append(at, i)
	}
	return at
}

// firstOf is the place in the text of what a look at both lists finds first, or -1.
func firstOf(s string, groups []int, look func(list string) int) int {
	for _, g := range []int{2, 4} {
		if groups[g] < 0 {
			continue
		}
		if i := look(s[groups[g]:groups[g+1]]); i >= 0 {
			return groups[g] + i
		}
	}
	return -1
}

// hoodOf is the neighbourhood of what stands at a text's end.
func hoodOf(letter string) uint8 {
	for h, letters := range ends {
		if slices.Contains(letters, letter) {
			return h
		}
	}
	return 0
}

// numbers are the counts that a list tells.
func numbers(list string) []int {
	var counts []int
	for _, r := range list {
		counts = append(counts, int(r-'0'))
	}
	return counts
}

// modelParse reads a text of at most MaxText bytes.
func modelParse(s string) (api.Life, int, api.Errno) {
	groups := begun.FindStringSubmatchIndex(s)
	if at := firstOf(s, groups, twice); at >= 0 {
		return api.Life{}, at, api.ErrTwice
	}
	parts := wholly.FindStringSubmatch(s)
	if parts == nil {
		return api.Life{}, groups[1], api.ErrLife
	}
	h := hoodOf(parts[3])
	if at := firstOf(s, groups, func(list string) int { return beyond(list, most[h]) }); at >= 0 {
		return api.Life{}, at, api.ErrCount
	}
	return rule(h, numbers(parts[1]), numbers(parts[2])), 0, api.OK
}

// oneForm is the one form of a text that may be: the letters great ones, the digits of each list sorted.
func oneForm(s string) string {
	parts := wholly.FindStringSubmatch(s)
	for i := range 2 {
		list := []byte(parts[i+1])
		slices.Sort(list)
		parts[i+1] = string(list)
	}
	return "B" + parts[1] + "/S" + parts[2] + strings.ToUpper(parts[3])
}

func mustParse(t *testing.T, s string) api.Life {
	t.Helper()
	l, at, e := life.Parse(s)
	if at != 0 || e != api.OK {
		t.Fatalf("Parse(%q): %d, %d", s, at, e)
	}
	return l
}

func mustPrint(t *testing.T, l api.Life) string {
	t.Helper()
	s, e := life.Print(l)
	if e != api.OK {
		t.Fatalf("Print(%v): %d", l, e)
	}
	return s
}

func mustTurned(t *testing.T, l api.Life) api.Life {
	t.Helper()
	turned, e := life.Turned(l)
	if e != api.OK {
		t.Fatalf("Turned(%v): %d", l, e)
	}
	return turned
}
