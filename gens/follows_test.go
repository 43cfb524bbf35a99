package gens_test

import (
	"regexp"
	"slices"
	"strconv"
	"strings"
	"testing"

	"vivarium/api"
	"vivarium/gens"
	"vivarium/life"
)

// P9.4: what follows of the others.

func TestParseOfWhatPrintAnswers(t *testing.T) {
	there := func(g api.Gens) {
		t.Helper()
		reads(t, mustPrint(t, g), g)
	}
	for _, h := range all {
		for l := range everyLife(h) {
			there(api.Gens{Life: l, States: 2 + int(l.Born+l.Stay)%255})
		}
		for states := 2; states <= 256; states++ {
			there(rule(h, "", "", states))
			there(rule(h, "0234", "1", states))
		}
	}
}

// withLetters and withoutLetters fit texts that may be, of the two forms.
var (
	withLetters    = regexp.MustCompile(`^[Bb]([0-8]*)/[Ss]([0-8]*)([VvHh]?)/[CcGg]?0*([0-9]+)$`)
	withoutLetters = regexp.MustCompile(`^([0-8]*)/([0-8]*)/[CcGg]?0*([0-9]+)$`)
)

// oneForm is the one form of a text that may be.
func oneForm(s string) string {
	var born, stay, end, number string
	if parts := withLetters.FindStringSubmatch(s); parts != nil {
		born, stay, end, number = parts[1], parts[2], parts[3], parts[4]
	} else {
		parts = withoutLetters.FindStringSubmatch(s)
		stay, born, number = parts[1], parts[2], parts[3]
	}
	return "B" + rising(born) + "/S" + rising(stay) + strings.ToUpper(end) + "/C" + number
}

// rising has the digits of a list sorted.
func rising(list string) string {
	digits := []byte(list)
	slices.Sort(digits)
	return string(digits)
}

// falling has them the other way round.
func falling(list string) string {
	digits := []byte(rising(list))
	slices.Reverse(digits)
	return string(digits)
}

// writings are texts of a rule in other forms than its one, each with all letters ahead of the number.
func writings(g api.Gens) []string {
	born, stay, end := list(g.Life.Born), list(g.Life.Stay), ends[g.Life.Hood]
	begins := []string{"B" + falling(born) + "/S" + stay + end, "b" + born + "/s" + falling(stay) + strings.ToLower(end)}
	if g.Life.Hood == api.Moore {
		begins = append(begins, stay+"/"+born, falling(stay)+"/"+falling(born))
	}
	var texts []string
	for _, begin := range begins {
		for _, letter := range forms {
			texts = append(texts, begin+"/"+letter+strconv.Itoa(g.States), begin+"/"+letter+"00"+strconv.Itoa(g.States))
		}
	}
	return texts
}

func TestPrintOfWhatParseAnswers(t *testing.T) {
	unlike := 0
	see := func(g api.Gens) {
		t.Helper()
		for _, s := range writings(g) {
			reads(t, s, g)
			one := mustPrint(t, mustParse(t, s))
			if one != oneForm(s) {
				t.Fatalf("Print of Parse(%q) is %q, not %q", s, one, oneForm(s))
			}
			if one != s {
				unlike++
			}
		}
	}
	for _, h := range all {
		for _, l := range someLives(h) {
			see(api.Gens{Life: l, States: 2 + int(l.Born)*7%255})
		}
		for states := 2; states <= 256; states++ {
			see(rule(h, "02", "314", states))
		}
	}
	if unlike < 10000 {
		t.Error(unlike)
	}
}

func TestPrintOfWhatParseAnswersOfShortTexts(t *testing.T) {
	read := 0
	see := func(s string) {
		g, _, e := gens.Parse(s)
		if e != api.OK {
			return
		}
		read++
		if one := mustPrint(t, g); one != oneForm(s) {
			t.Errorf("Print of Parse(%q) is %q, not %q", s, one, oneForm(s))
		}
	}
	everyText("", "/0325cG", 6, see)
	everyText("b3/S", "042vH/G", 5, see)
	if read < 100 {
		t.Error(read)
	}
}

// TestLettersSayTheSame: each letter and none, read one against the other.
func TestLettersSayTheSame(t *testing.T) {
	for head := range heads {
		for n := 2; n <= 256; n++ {
			number := strconv.Itoa(n)
			plain := mustParse(t, head+"/"+number)
			for _, letter := range forms {
				reads(t, head+"/"+letter+number, plain)
			}
		}
	}
}

func TestUnlikeRulesHaveUnlikeTexts(t *testing.T) {
	of := map[string]api.Gens{}
	for _, h := range all {
		for _, l := range someLives(h) {
			for _, states := range []int{2, 3, 12, 20, 21, 22, 200, 255, 256} {
				g := api.Gens{Life: l, States: states}
				s := mustPrint(t, g)
				if other, is := of[s]; is {
					t.Fatalf("Print of %v and of %v is %q", g, other, s)
				}
				of[s] = g
			}
		}
	}
}

// TestTwoStatesDoWhatLifeDoes: all rules of births and stays, all counts.
func TestTwoStatesDoWhatLifeDoes(t *testing.T) {
	for _, h := range all {
		for l := range everyLife(h) {
			g := api.Gens{Life: l, States: 2}
			for state := range uint8(3) {
				for living := -1; living <= most[h]+1; living++ {
					want, wantE := life.Next(l, state, living)
					if got, e := gens.Next(g, state, living); got != want || e != wantE {
						t.Fatalf("Next(%v, %d, %d) = %d, %d, life's %d, %d", g, state, living, got, e, want, wantE)
					}
				}
			}
		}
	}
}

// TestFadingInItsTime: from the generation in which a cell has begun to fade it takes States - 2 generations, whatever its neighbours are meanwhile.
func TestFadingInItsTime(t *testing.T) {
	for _, h := range all {
		full := uint16(power(most[h]+1) - 1)
		for _, l := range []api.Life{{Hood: h}, {Hood: h, Born: full}, {Hood: h, Born: full / 2, Stay: full - 1}, {Hood: h, Born: 4, Stay: full - 1}} {
			for states := 2; states <= 256; states++ {
				g := api.Gens{Life: l, States: states}
				for by := range most[h] + 1 {
					if late := untilDead(t, g, by); late != states-2 {
						t.Fatalf("%v: dead %d generations later", g, late)
					}
				}
			}
		}
	}
}

// untilDead is how many generations behind its first one of fading a cell is dead first; its neighbours are others each time.
func untilDead(t *testing.T, g api.Gens, by int) int {
	t.Helper()
	state := mustNext(t, g, 1, 0)
	for late := 0; ; late++ {
		if state == 0 {
			return late
		}
		if state == 1 {
			t.Fatalf("%v lives again", g)
		}
		state = mustNext(t, g, state, (late*by+by)%(most[g.Life.Hood]+1))
	}
}
