package life_test

import (
	"strings"
	"testing"

	"vivarium/api"
	"vivarium/life"
)

// P8.5: what follows of the others.

func TestParseOfWhatPrintAnswers(t *testing.T) {
	for _, h := range all {
		for l := range everyRule(h) {
			reads(t, mustPrint(t, l), l)
		}
	}
}

// writings are a rule's texts with the letters small or great and the digits in some orders.
func writings(l api.Life) []string {
	one := modelText(l)
	parts := wholly.FindStringSubmatch(one)
	var list []string
	for _, end := range ends[l.Hood] {
		for by := range max(len(parts[1]), len(parts[2]), 1) {
			born, stay := rolled(parts[1], by), rolled(backward(parts[2]), by)
			list = append(list, "B"+born+"/S"+stay+end, "b"+born+"/s"+backward(stay)+end, "b"+backward(born)+"/S"+stay+end)
		}
	}
	return list
}

// modelText is a text of a rule that may be, its digits falling.
func modelText(l api.Life) string {
	var lists [2]string
	for n := range most[l.Hood] + 1 {
		for s := range lists {
			if modelNext(l, uint8(s), n) == 1 {
				lists[s] = string([]byte{'0' + byte(n)}) + lists[s]
			}
		}
	}
	return "B" + lists[0] + "/S" + lists[1] + ends[l.Hood][0]
}

// rolled has the first letters of a list behind the others.
func rolled(list string, by int) string {
	by = min(by, len(list))
	return list[by:] + list[:by]
}

func backward(list string) string {
	var text strings.Builder
	for i := range len(list) {
		text.WriteByte(list[len(list)-1-i])
	}
	return text.String()
}

func TestPrintOfWhatParseAnswers(t *testing.T) {
	unlike := 0
	for _, h := range all {
		for l := range everyRule(h) {
			if h == api.Moore && l.Born%31 > 1 { // some of the many
				continue
			}
			for _, s := range writings(l) {
				one := mustPrint(t, mustParse(t, s))
				if one != oneForm(s) || len(one) > len(s) {
					t.Fatalf("Print of Parse(%q) is %q, not %q", s, one, oneForm(s))
				}
				reads(t, s, l)
				if one != s {
					unlike++
				}
			}
		}
	}
	if unlike < 10000 {
		t.Error(unlike)
	}
}

func TestPrintOfWhatParseAnswersOfShortTexts(t *testing.T) {
	read := 0
	see := func(s string) {
		l, _, e := life.Parse(s)
		if e != api.OK {
			return
		}
		read++
		if one := mustPrint(t, l); one != oneForm(s) || len(one) > len(s) {
			t.Errorf("Print of Parse(%q) is %q, not %q", s, one, oneForm(s))
		}
	}
	everyText("", "Bbs/VvHh07", 5, see)
	everyText("b3/S", "0324vH", 5, see)
	if read < 100 {
		t.Error(read)
	}
}

func TestUnlikeRulesHaveUnlikeTexts(t *testing.T) {
	of := map[string]api.Life{}
	for _, h := range all {
		for l := range everyRule(h) {
			s := mustPrint(t, l)
			if other, is := of[s]; is {
				t.Fatalf("Print of %v and of %v is %q", l, other, s)
			}
			of[s] = l
		}
	}
}

// TestUnlikeRulesDoUnlike: what Next says of all states and counts, one behind the other, is of no two rules of a neighbourhood the same.
func TestUnlikeRulesDoUnlike(t *testing.T) {
	for _, h := range all {
		of := map[int]api.Life{}
		for l := range everyRule(h) {
			does := 0
			for state := range uint8(2) {
				for living := range most[h] + 1 {
					s, e := life.Next(l, state, living)
					if e != api.OK {
						t.Fatal(l, state, living, e)
					}
					does = does*2 + int(s)
				}
			}
			if other, is := of[does]; is {
				t.Fatalf("%v and %v do the same", l, other)
			}
			of[does] = l
		}
	}
}

func TestTurnedTwice(t *testing.T) {
	for _, h := range all {
		for l := range everyRule(h) {
			if twice := mustTurned(t, mustTurned(t, l)); twice != l {
				t.Fatalf("%v turned twice is %v", l, twice)
			}
		}
	}
}
