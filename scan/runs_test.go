package scan_test

import (
	"math/big"
	"regexp"
	"slices"
	"strings"
	"testing"

	"vivarium/api"
	"vivarium/scan"
)

var (
	runForm   = regexp.MustCompile(`^([0-9]*)([bo.A-X$]|[p-x][A-X]|y[A-O])`)
	digitForm = regexp.MustCompile(`^[0-9]*`)
)

// modelRuns is Runs by patterns: what follows is a run, white, the end, or wrong.
func modelRuns(s string) ([]api.Run, int, api.Errno) {
	if len(s) > 1<<20 {
		return nil, 0, api.ErrText
	}
	var runs []api.Run
	for at := 0; at < len(s); {
		if strings.Contains(" \t\n\r", s[at:at+1]) {
			at++
			continue
		}
		if s[at] == '!' {
			return runs, at + 1, api.OK
		}
		digits := digitForm.FindString(s[at:])
		count, _ := new(big.Int).SetString("0"+digits, 10)
		if digits != "" && (count.Sign() == 0 || count.Cmp(big.NewInt(1<<40)) > 0) {
			return nil, at, api.ErrRange
		}
		behind := s[at+len(digits):]
		if len(behind) == 0 || len(behind) == 1 && behind >= "p" && behind <= "y" {
			return nil, len(s), api.ErrEarly
		}
		run := runForm.FindStringSubmatch(s[at:])
		if run == nil {
			return nil, at + len(digits), api.ErrTag
		}
		n := 1
		if digits != "" {
			n = int(count.Int64())
		}
		runs = append(runs, api.Run{Count: n, Tag: run[2], At: at})
		at += len(run[0])
	}
	return nil, len(s), api.ErrEarly
}

func sameRuns(t *testing.T, s string) {
	t.Helper()
	runs, at, e := scan.Runs(s)
	want, wantAt, wantE := modelRuns(s)
	if !slices.Equal(runs, want) || at != wantAt || e != wantE {
		t.Errorf("Runs(%q) = %v, %d, %d, not %v, %d, %d", s, runs, at, e, want, wantAt, wantE)
	}
}

func TestRunsOfAllShortTexts(t *testing.T) {
	every("02boAy$ !", 5, func(s string) { sameRuns(t, s) })
	every(".pXYyOPz\n!", 4, func(s string) { sameRuns(t, s) })
}

func TestRunsOfEachByte(t *testing.T) {
	for b := range 256 {
		for _, around := range [][2]string{{"", ""}, {"", "!"}, {"2", "!"}, {"2", ""}, {"o", "!"}, {"p", "!"}, {"3y", "!"}, {"", "A!"}, {"12", "A!"}, {"o ", " o!"}} {
			sameRuns(t, around[0]+string([]byte{byte(b)})+around[1])
		}
	}
}

func TestRunsOfEachTwoBytes(t *testing.T) {
	for a := range 256 {
		for b := range 256 {
			sameRuns(t, "o7"+string([]byte{byte(a), byte(b)})+"!")
		}
	}
}

// refused looks for an error of Runs at its place, and nothing beside it.
func refused(t *testing.T, s string, at int, e api.Errno) {
	t.Helper()
	runs, gotAt, got := scan.Runs(s)
	if len(s) > 50 {
		s = s[:50] + ".."
	}
	if len(runs) != 0 || gotAt != at || got != e {
		t.Errorf("Runs(%q) = %v, %d, %d, not %d, %d", s, runs, gotAt, got, at, e)
	}
}

// are looks for the runs of a text.
func are(t *testing.T, s string, at int, want ...api.Run) {
	t.Helper()
	runs, gotAt, e := scan.Runs(s)
	if !slices.Equal(runs, want) || gotAt != at || e != api.OK {
		t.Errorf("Runs(%q) = %v, %d, %d, not %v, %d", s, runs, gotAt, e, want, at)
	}
}

func TestRunsCounts(t *testing.T) {
	are(t, "1o!", 3, api.Run{Count: 1, Tag: "o"})
	are(t, "0001o!", 6, api.Run{Count: 1, Tag: "o"})
	are(t, "1099511627776$!", 15, api.Run{Count: api.MaxFar, Tag: "$"})
	are(t, "001099511627776yO!", 18, api.Run{Count: api.MaxFar, Tag: "yO"})
	refused(t, "o1099511627777o!", 1, api.ErrRange)
	refused(t, "0!", 0, api.ErrRange)
	refused(t, "o 000o!", 2, api.ErrRange)
	refused(t, "9223372036854775807o!", 0, api.ErrRange)
	refused(t, "9223372036854775808o!", 0, api.ErrRange)
	refused(t, "18446744073709551617o!", 0, api.ErrRange) // wrapped round it would be 1
	refused(t, strings.Repeat("1", api.MaxText), 0, api.ErrRange)
	noughts := strings.Repeat("0", api.MaxText-3)
	are(t, noughts+"2o!", api.MaxText, api.Run{Count: 2, Tag: "o"})
	refused(t, noughts+"000", 0, api.ErrRange)
}

func TestRunsTellTheFirstFaultFromTheLeft(t *testing.T) {
	refused(t, "0", 0, api.ErrRange)  // ahead of the early end
	refused(t, "0z", 0, api.ErrRange) // ahead of the tag
	refused(t, "o\n3!0o", 3, api.ErrTag)
	refused(t, "z0o", 0, api.ErrTag)
	refused(t, "2yPz", 1, api.ErrTag)
	refused(t, "2y", 2, api.ErrEarly)
	refused(t, "2y!", 1, api.ErrTag)
	refused(t, "2p\nA!", 1, api.ErrTag)
	refused(t, "12\tb!", 2, api.ErrTag)
	refused(t, "bo$", 3, api.ErrEarly)
	refused(t, "bo$ \t\r\n", 7, api.ErrEarly)
	refused(t, "a!", 0, api.ErrTag)
	refused(t, "-1o!", 0, api.ErrTag)
	refused(t, "Y!", 0, api.ErrTag)
	refused(t, "é", 0, api.ErrTag)
}

func TestRunsLooksAtNothingBehindTheEnd(t *testing.T) {
	are(t, "2o!0z\xff", 3, api.Run{Count: 2, Tag: "o"})
	are(t, "!!", 1)
	are(t, " \t\r\n!", 5)
	are(t, "o \n\r\t 2b\n!", 10, api.Run{Count: 1, Tag: "o"}, api.Run{Count: 2, Tag: "b", At: 6})
}

func TestRunsOfTheLongestText(t *testing.T) {
	if runs, at, e := scan.Runs(strings.Repeat("o", api.MaxText-1) + "!"); len(runs) != api.MaxText-1 || at != api.MaxText || e != api.OK {
		t.Errorf("%d runs, %d, %d", len(runs), at, e)
	}
	are(t, strings.Repeat(" ", api.MaxText-1)+"!", api.MaxText)
	are(t, "!"+strings.Repeat("z", api.MaxText-1), 1)
	refused(t, strings.Repeat("o", api.MaxText), api.MaxText, api.ErrEarly)
	refused(t, "!"+strings.Repeat("z", api.MaxText), 0, api.ErrText)
	refused(t, "z"+strings.Repeat("o", api.MaxText-1)+"!", 0, api.ErrText)
	refused(t, strings.Repeat("o", api.MaxText)+"!", 0, api.ErrText)
}

func TestRunsAreNewEachTime(t *testing.T) {
	one, _, _ := scan.Runs("2o!")
	one[0] = api.Run{}
	are(t, "2o!", 3, api.Run{Count: 2, Tag: "o"})
}
