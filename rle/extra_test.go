package rle_test

import (
	"strconv"
	"strings"
	"testing"

	"vivarium/api"
)

// P22.1: the text's length, and the lines ahead of the head.

// simple is a head and a body behind which all is well.
const simple = "x=2,y=1,rule=r\n.B!"

// simpleDoc is the pattern of it.
func simpleDoc() api.Doc {
	return api.Doc{W: 2, H: 1, Rule: "r", Cells: line(1, 0, 1, 2)}
}

// placed is that pattern with a place and a generation.
func placed(x, y, gen int) api.Doc {
	d := simpleDoc()
	d.Placed, d.At, d.Gen = true, api.Point{X: x, Y: y}, gen
	return d
}

// aged is that pattern with a generation alone.
func aged(gen int) api.Doc {
	d := simpleDoc()
	d.Gen = gen
	return d
}

func TestReadOfLongTexts(t *testing.T) {
	fill := func(n int) string { return strings.Repeat("z", n) }
	left := api.MaxText - len(simple)
	for _, text := range []string{
		simple + fill(left),
		"#" + fill(left-2) + "\n" + simple,
		strings.Repeat("\n", left) + simple,
		"#CXRLE" + strings.Repeat(" ", left-7) + "\n" + simple,
		strings.Replace(simple, "\n", strings.Repeat(" ", left)+"\n", 1),
		strings.Replace(simple, "x=", "x="+strings.Repeat("0", left), 1),
		strings.Replace(simple, "\n", strings.Repeat("\n", left+1), 1),
	} {
		if len(text) != api.MaxText {
			t.Fatal(len(text))
		}
		reads(t, text, simpleDoc())
		refuses(t, text+"z", api.ErrText, 0)
		refuses(t, "z"+text, api.ErrText, 0)
	}
	long := simpleDoc()
	long.Rule = "r" + fill(left)
	reads(t, strings.Replace(simple, "r\n", long.Rule+"\n", 1), long)
	refuses(t, fill(api.MaxText), api.ErrHead, 0)
	for _, wrong := range []string{"", "#CXRLE x\n", "#CXRLE\n#CXRLE\n", "y\n", "x=1099511627777\n", "x=1,y=1\n2o!\n"} {
		refuses(t, wrong+strings.Repeat("\n", api.MaxText+1-len(wrong)), api.ErrText, 0) // ahead of all else
	}
	refuses(t, strings.Repeat("\n", api.MaxText), api.ErrHead, api.MaxText)
	refuses(t, strings.Repeat("\n", 3*api.MaxText), api.ErrText, 0)
}

func TestReadOfLinesThatArePassedOver(t *testing.T) {
	for _, passed := range []string{
		"\n", "\r\n", " \n", "\t \t\n", " \r\n", "\t\r\n", "#\n", "##\n", "#N glider\n", "# \t\r\n", "#\r\r\n", "#\x00\xff\n", "#C #CXRLE Gen=x\n", "# CXRLE Gen=x\n",
		"#cxrle Gen=x\n", "#CXRL Gen=x\n", "#CXRL\n", "#CXRLe\n", "#x=9,y=9\n", "#!\n", "\n#\n \n#\n\n",
	} {
		reads(t, passed+simple, simpleDoc())
		reads(t, passed+passed+simple, simpleDoc())
		reads(t, passed+"#CXRLE Pos=3,-4 Gen=5\n"+simple, placed(3, -4, 5))
		reads(t, "#CXRLE Pos=3,-4 Gen=5\n"+passed+simple, placed(3, -4, 5))
		refuses(t, passed+"#CXRLE z\n", api.ErrExtra, len(passed)+7)
		refuses(t, passed+"y=1\n", api.ErrHead, len(passed))
		refuses(t, passed, api.ErrHead, len(passed))
		refuses(t, strings.TrimSuffix(passed, "\n"), api.ErrHead, len(passed)-1)
	}
}

// TestReadOfLinesThatAreNotPassedOver: the first of them is the head.
func TestReadOfLinesThatAreNotPassedOver(t *testing.T) {
	for line, at := range map[string]int{
		" #": 1, "\t#C so": 1, "  #CXRLE": 2, "\r#": 0, "\r\r": 0, " \r\r": 1, "\v": 0, "\x00": 0, "\u00a0": 0, "\ufeff": 0, "!": 0, "CXRLE": 0, "o!": 0, "\r \t": 0, " \r ": 1,
	} {
		for _, ahead := range []string{"", "\n", "#C\n\n", "#CXRLE Gen=1\n"} {
			refuses(t, ahead+line, api.ErrHead, len(ahead)+at)
			refuses(t, ahead+line+"\n"+simple, api.ErrHead, len(ahead)+at)
			refuses(t, ahead+line+"\n#CXRLE z\n", api.ErrHead, len(ahead)+at)
		}
	}
}

func TestReadOfTheExtraLine(t *testing.T) {
	reads(t, simple, simpleDoc())
	for line, want := range map[string]api.Doc{
		"#CXRLE":                     simpleDoc(),
		"#CXRLE ":                    simpleDoc(),
		"#CXRLE \t ":                 simpleDoc(),
		"#CXRLE Pos=1,2":             placed(1, 2, 0),
		"#CXRLE Pos=0,0":             placed(0, 0, 0),
		"#CXRLE Gen=3":               aged(3),
		"#CXRLE Gen=0":               simpleDoc(),
		"#CXRLE Pos=1,2 Gen=3":       placed(1, 2, 3),
		"#CXRLE Gen=3 Pos=1,2":       placed(1, 2, 3),
		"#CXRLEPos=1,2 Gen=3":        placed(1, 2, 3),
		"#CXRLEGen=3":                aged(3),
		"#CXRLE\tGen=3 \t Pos=1,2\t": placed(1, 2, 3),
		"#CXRLE Pos=-1,-2":           placed(-1, -2, 0),
		"#CXRLE Pos=-0,-00 Gen=-0":   placed(0, 0, 0),
		"#CXRLE Pos=007,-010":        placed(7, -10, 0),
		"#CXRLE Gen=00012":           aged(12),
		"#CXRLE Pos=1099511627776,-1099511627776 Gen=1125899906842624":  placed(1<<40, -1<<40, 1<<50),
		"#CXRLE Pos=-1099511627776,1099511627776 Gen=01125899906842624": placed(-1<<40, 1<<40, 1<<50),
	} {
		reads(t, line+"\n"+simple, want)
		reads(t, line+"\r\n"+simple, want)
		reads(t, line+" \t\r\n#CXRL\n\n"+simple, want)
	}
}

// wrongFields are fields that are none of the two.
var wrongFields = []string{
	"x", "=", ",", "0", "Pos", "Pos=", "Pos=1", "Pos=1,", "Pos=,", "Pos=,2", "Pos=1,2,", "Pos=1,2,3", "Pos=1;2", "Pos==1,2", "Pos=1,=2", "Pos=+1,2", "Pos=1,+2", "Pos=--1,2", "Pos=1,-", "Pos=-,2", "Pos=a,2", "Pos=1,b", "Pos=1.0,2", "Pos=1_0,2", "Pos=0x1,2",
	"Pos=1099511627777,0", "Pos=0,1099511627777", "Pos=-1099511627777,0", "Pos=0,-1099511627777", "Pos=9223372036854775808,0", "Pos=0,-9223372036854775809", "Pos=18446744073709551616,0", "Pos=0,18446744073709551617",
	"pos=1,2", "POS=1,2", "Po=1,2", "Poss=1,2", "xPos=1,2", "Pos1,2", "Pos:1,2", "Pos=1,2;Gen=3", "Pos=1,2,Gen=3", "Pos=1,2\r\r",
	"Gen", "Gen=", "Gen=-1", "Gen=+1", "Gen=a", "Gen=1a", "Gen=--0", "Gen==1", "Gen=1,2", "Gen=1=", "Gen=1.", "Gen=1125899906842625", "Gen=-1125899906842624", "Gen=9223372036854775807", "Gen=9223372036854775808", "Gen=18446744073709551617",
	"gen=1", "GEN=1", "Ge=1", "Genn=1", "Gen1", "Gen:1", "#", "#CXRLE", "#Gen=1", "Rule=r", "\r\r", "\x00", "é", "Gen=\u0661",
}

func TestReadOfWrongFields(t *testing.T) {
	for _, field := range wrongFields {
		for _, ahead := range []string{"#CXRLE", "#CXRLE ", "#CXRLE\t \t", "#CXRLE Gen=1 ", "#CXRLE Pos=1,2\t", "#CXRLE Pos=1,2 Gen=1 ", "\n#C\n#CXRLE Gen=1  Pos=1,2 "} {
			for _, behind := range []string{" ", " z", "\n" + simple, "\n#CXRLE\n", "\ny", " Pos=1,2 Gen=1\r\n" + simple} {
				refuses(t, ahead+field+behind, api.ErrExtra, len(ahead))
			}
		}
	}
}

func TestReadOfFieldsThatStandTwice(t *testing.T) {
	for _, first := range []string{"Pos=1,2", "Pos=0,0", "Pos=-3,4", "Gen=1", "Gen=0", "Gen=-0"} {
		for _, second := range []string{"Pos=1,2", "Pos=0,0", "Pos=z", "Gen=1", "Gen=0", "Gen=z"} {
			if first[:3] != second[:3] {
				continue
			}
			ahead := "#CXRLE " + first + " \t"
			refuses(t, ahead+second+"\n"+simple, api.ErrExtra, len(ahead))
			other := "Gen=5 "
			if first[:3] == "Gen" {
				other = "Pos=5,5 "
			}
			refuses(t, "#CXRLE "+other+first+" "+second+"\n"+simple, api.ErrExtra, len("#CXRLE "+other+first+" "))
			refuses(t, ahead+other+second+"\n"+simple, api.ErrExtra, len(ahead+other))
		}
	}
}

func TestReadOfASecondExtraLine(t *testing.T) {
	for _, first := range []string{"#CXRLE\n", "#CXRLE Gen=1\n", "#CXRLE Pos=1,2\r\n", "#C\n#CXRLE Pos=1,2 Gen=3\n\n#\n \n"} {
		for _, second := range []string{"#CXRLE", "#CXRLE z", "#CXRLEz", "#CXRLE Gen=1", "#CXRLE Pos=1,2", "#CXRLE\n#CXRLE"} {
			refuses(t, first+second, api.ErrExtra, len(first))
			refuses(t, first+second+"\n"+simple, api.ErrExtra, len(first))
		}
		refuses(t, "#CXRLE z\n"+first, api.ErrExtra, 7) // the first that is met counts
	}
	refuses(t, "#CXRLE\n"+simple[:14]+"\n#CXRLE\no!", api.ErrTag, 22) // behind the head it is no such line
}

// TestReadOfNumbersNearTheLimits: the place and the generation, one by one.
func TestReadOfNumbersNearTheLimits(t *testing.T) {
	for d := -5; d <= 5; d++ {
		for _, far := range []int{1 << 40, -1 << 40} {
			n := far + d
			text := strconv.Itoa(n)
			is := n >= -1<<40 && n <= 1<<40
			for _, line := range []string{"#CXRLE Pos=" + text + ",7\n", "#CXRLE Pos=7," + text + "\n"} {
				if !is {
					refuses(t, line+simple, api.ErrExtra, 7)
					continue
				}
				want := placed(n, 7, 0)
				if strings.HasPrefix(line, "#CXRLE Pos=7,") {
					want = placed(7, n, 0)
				}
				reads(t, line+simple, want)
			}
		}
		for _, edge := range []int{0, 1 << 50} {
			n := edge + d
			line := "#CXRLE Gen=" + strconv.Itoa(n) + "\n"
			if n < 0 || n > 1<<50 {
				refuses(t, line+simple, api.ErrExtra, 7)
				continue
			}
			reads(t, line+simple, aged(n))
		}
	}
}
