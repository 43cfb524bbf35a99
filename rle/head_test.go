package rle_test

import (
	"slices"
	"strconv"
	"strings"
	"testing"

	"vivarium/api"
)

// P22.1: the head.

// bare is a pattern without cells.
func bare(w, h int, rule string) api.Doc { return api.Doc{W: w, H: h, Rule: rule} }

// heads looks at a line of a head that is read, with line ends of all kinds behind it.
func heads(t *testing.T, line string, want api.Doc) {
	t.Helper()
	for _, end := range []string{"\n", "\r\n", " \n", "\t \r\n"} {
		reads(t, line+end+"!", want)
		reads(t, "#C\n\n"+line+end+"\n!!", want)
	}
	for _, end := range []string{"", "\n", " \t", "\r", " \r\n"} {
		refuses(t, line+end, api.ErrEarly, len(line+end)) // nothing but the body lacks
	}
}

// noHead looks at a line of a head that is not read, with line ends of all kinds behind it.
func noHead(t *testing.T, line string, code api.Errno, at int) {
	t.Helper()
	for _, ahead := range []string{"", "\n", "#C so\r\n", "#CXRLE Pos=1,2\n \t\n"} {
		for _, end := range []string{"", "\n", "\r\n", " \t", " \t\r", "\t\n!", "\no!", "\nx=1,y=1\n!"} {
			refuses(t, ahead+line+end, code, len(ahead)+at)
		}
	}
}

// headPieces are those of a head with a rule.
var headPieces = []string{"x", "=", "12", ",", "y", "=", "034", ",", "rule", "=", "a, b = c"}

func TestReadOfHeads(t *testing.T) {
	for _, gap := range []string{"", " ", "\t", " \t  "} {
		heads(t, strings.Join(headPieces, gap), bare(12, 34, "a, b = c"))
		heads(t, gap+strings.Join(headPieces, gap), bare(12, 34, "a, b = c"))
		heads(t, gap+strings.Join(headPieces[:7], gap), bare(12, 34, "B3/S23"))
		for i := range headPieces {
			heads(t, strings.Join(headPieces[:i], "")+gap+strings.Join(headPieces[i:], ""), bare(12, 34, "a, b = c"))
		}
	}
	heads(t, "x = 0, y = 0", bare(0, 0, "B3/S23"))
	heads(t, "x = 000, y = 00000000000000000000000000000", bare(0, 0, "B3/S23"))
	heads(t, "x = 1099511627776, y = 1099511627776", bare(1<<40, 1<<40, "B3/S23"))
	heads(t, "x = 01099511627776, y = 0000000000000000000000001", bare(1<<40, 1, "B3/S23"))
}

func TestReadOfHeadsRules(t *testing.T) {
	for _, rule := range []string{
		"r", "B3/S23", "B3/S23:T30,20", "a, b = c", ",", "=", "==", "= x", ", rule = x", "rule", "rule=rule", "x = 1, y = 1", "!", "#", "#CXRLE", "a b", "a\t b", "a  ,  b", "\x00", "\v\f", "é", "\xff", "\u00a0", "a \x00 b", "\x85", "B3/S23 (Life)", strings.Repeat("a ", 500) + "a",
	} {
		for _, gap := range []string{"", " ", "\t", " \t  "} {
			heads(t, "x = 3, y = 4, rule ="+gap+rule, bare(3, 4, rule))
			heads(t, "x=3,y=4,rule="+gap+rule+gap, bare(3, 4, rule))
		}
		for _, at := range []int{0, len(rule) / 2, len(rule)} {
			broken := rule[:at] + "\r" + rule[at:]
			if at == len(rule) {
				broken += "\r" // the last one at a line's end is none of the line
			}
			refuses(t, "x = 3, y = 4, rule = "+broken+"\n!", api.ErrHead, 21+at)
			refuses(t, "x = 3, y = 4, rule = "+broken+"\r\n!", api.ErrHead, 21+at)
			refuses(t, "x = 3, y = 4, rule = "+broken+" x \r", api.ErrHead, 21+at)
		}
	}
	refuses(t, "x = 3, y = 4, rule = a\rb\rc\n!", api.ErrHead, 22)
	refuses(t, "x = 3, y = 4, rule = a \r\r\n!", api.ErrHead, 23)
	refuses(t, "x = 3, y = 4, rule = a\r \n!", api.ErrHead, 22)
}

// TestReadOfHeadsThatEndEarly: at the end of each piece, and within the words.
func TestReadOfHeadsThatEndEarly(t *testing.T) {
	const whole = "x = 12, y = 034, rule = r"
	taken := []string{"x = 12, y = 034", "x = 12, y = 03", "x = 12, y = 0", whole}
	for n := 1; n <= len(whole); n++ {
		if line := strings.TrimRight(whole[:n], " "); !slices.Contains(taken, line) {
			noHead(t, line, api.ErrHead, len(line))
			noHead(t, " \t"+line, api.ErrHead, len(line)+2)
		}
	}
}

// TestReadOfHeadsWithoutAPiece: the next one can't stand in its place; nor can a piece once more behind it.
func TestReadOfHeadsWithoutAPiece(t *testing.T) {
	for i, piece := range headPieces[:10] {
		for _, gap := range []string{" ", "\t "} {
			ahead, behind := "", strings.Join(headPieces[i+1:], gap)
			for _, p := range headPieces[:i] {
				ahead += p + gap
			}
			noHead(t, ahead+behind, api.ErrHead, len(ahead))
			if again := ahead + piece + gap; i < 9 { // behind the rule's equals sign another one may stand
				noHead(t, again+piece+gap+behind, api.ErrHead, len(again))
			}
		}
	}
}

// TestReadOfHeadsWithOtherBytes: each byte ahead of each of a head's.
func TestReadOfHeadsWithOtherBytes(t *testing.T) {
	const whole = "x=1,y=1,rule=r"
	for at := range len(whole) {
		for b := range 256 {
			letter := string([]byte{byte(b)})
			text := whole[:at] + letter + whole[at:]
			isDigit := b >= '0' && b <= '9'
			isBlank := letter == " " || letter == "\t"
			switch {
			case letter == "\n" || letter == "#" && at == 0: // it is another line then
			case at == 13 && letter != "\r" || at == 12 && letter == "=":
				heads(t, text, bare(1, 1, strings.TrimLeft(letter+"r", " \t")))
			case isDigit && (at == 2 || at == 3):
				side, _ := strconv.Atoi(text[2:4])
				heads(t, text, bare(side, 1, "r"))
			case isDigit && (at == 6 || at == 7):
				side, _ := strconv.Atoi(text[6:8])
				heads(t, text, bare(1, side, "r"))
			case isBlank && (at < 9 || at == 12):
				heads(t, text, bare(1, 1, "r"))
			case letter == whole[at:at+1]: // the second of two alike is the wrong one
				noHead(t, text, api.ErrHead, at+1)
			default:
				noHead(t, text, api.ErrHead, at)
			}
		}
	}
}

func TestReadOfWrongHeads(t *testing.T) {
	for line, at := range map[string]int{
		"y = 1": 0, "X = 1": 0, "xx = 1": 1, "x x = 1": 2, "x : 1": 2, "x = = 1": 4, "x == 1": 3, "x = -1, y = 1": 4, "x = +1, y = 1": 4, "x = a": 4, "x = , y = 1": 4, "x = 1 2, y = 1": 6, "x = 1.0": 5, "x = 1_0": 5, "x = 0x1": 5, "x = 1; y = 1": 5, "x = 1 y = 1": 6, "x = 1,, y = 1": 6, "x = 1, x = 1": 7, "x = 1, Y = 1": 7, "x = 1, y - 1": 9, "x = 1, y = -0": 11, "x = 1, y = y": 11,
		"x = 1, y = 1 rule = r": 13, "x = 1, y = 1; rule = r": 12, "x = 1, y = 1, Rule = r": 14, "x = 1, y = 1, rules = r": 18, "x = 1, y = 1, ru le = r": 16, "x = 1, y = 1, rux": 16, "x = 1, y = 1, rul = r": 17, "x = 1, y = 1, r = r": 15, "x = 1, y = 1, rule : r": 19, "x = 1, y = 1, rule r": 19, "x = 1, y = 1, , rule = r": 14, "x = 1, y = 1, z": 14, "x = 1, y = 1 z": 13, "x = 1, y = 1!": 12, "x = 1, y = 1 #": 13,
		"x\r = 1": 1, "x = 1\r, y = 1": 5, "x = 1, y = 1\r, rule = r": 12, "\rx = 1": 0, "x\v= 1": 1, "x = \xa01": 4, "x = ٣": 4, "é": 0,
	} {
		noHead(t, line, api.ErrHead, at)
	}
	refuses(t, "x = 1, y = 1\r\r\n!", api.ErrHead, 12) // one byte 13 alone is of the line's end
	refuses(t, "x = 1, y = 1 \r \n!", api.ErrHead, 13)
	refuses(t, "x = 1\r\r\n, y = 1\n!", api.ErrHead, 5)
	refuses(t, "x = 1,\ny = 1\n!", api.ErrHead, 6) // it is one line
	refuses(t, "x = 1, y = 1,\nrule = r\n!", api.ErrHead, 13)
}

func TestReadOfHeadsWhoseSidesAreFar(t *testing.T) {
	for _, far := range []string{"1099511627777", "0001099511627777", "1099511627786", "2000000000000", "10995116277760", "9223372036854775807", "9223372036854775808", "18446744073709551616", "18446744073709551617", strings.Repeat("9", 3000), strings.Repeat("0", 3000) + strings.Repeat("1", 3000)} {
		for _, behind := range []string{"", "z", " z", ",", ", y = 1", ", y = z", ", y = 1, rule = r", ", y = " + far, "-", ".5"} {
			noHead(t, "x = "+far+behind, api.ErrFar, 4) // ahead of all that stands behind it
			noHead(t, "x=  \t"+far+behind, api.ErrFar, 5)
		}
		for _, behind := range []string{"", "z", " z", ",", ", rule = r", ", rule =", ", rule = \r\r"} {
			noHead(t, "x = 1, y = "+far+behind, api.ErrFar, 11)
			noHead(t, "x = 1099511627776 ,y=\t"+far+behind, api.ErrFar, 22)
		}
		noHead(t, "x : "+far, api.ErrHead, 2) // ahead of it is another fault
		noHead(t, "x = -"+far, api.ErrHead, 4)
		noHead(t, "x = 1, z = "+far, api.ErrHead, 7)
		noHead(t, "x = z, y = "+far, api.ErrHead, 4)
		noHead(t, "x = 1 1, y = "+far, api.ErrHead, 6)
		heads(t, "x = 1, y = 1, rule = "+far, bare(1, 1, far))
	}
	for d := -3; d <= 3; d++ {
		text := strconv.Itoa(1<<40 + d)
		if d > 0 {
			noHead(t, "x = 5, y = "+text, api.ErrFar, 11)
			noHead(t, "x = "+text+", y = 5", api.ErrFar, 4)
			continue
		}
		heads(t, "x = 5, y = "+text, bare(5, 1<<40+d, "B3/S23"))
		heads(t, "x = "+text+", y = 5", bare(1<<40+d, 5, "B3/S23"))
	}
}
