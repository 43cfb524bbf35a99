package table_test

import (
	"errors"
	"strconv"
	"strings"
	"testing"

	"vivarium/api"
	"vivarium/table"
)

// P10.2: texts that are read, and what is told of those that are not, fault by fault.

// four is the chapter's T, with a byte 10 behind each line.
const four = "n_states:3\nneighborhood:vonNeumann\nsymmetries:rotate4\nvar a={0,1}\n0,1,a,a,a,2\n"

// three are the first three lines of T.
const three = "n_states:3\nneighborhood:vonNeumann\nsymmetries:rotate4\n"

// fourTable is its table.
func fourTable() api.Table {
	return api.Table{
		States: 3, Hood: api.Neumann, Symmetry: api.SymRotate4,
		Vars: []api.Var{{Name: "a", States: []uint8{0, 1}}},
		Rows: []api.Trans{row(st(0), st(1), va(0), va(0), va(0), st(2))},
	}
}

// reads looks at a text that tells a table.
func reads(t *testing.T, text string, want api.Table) {
	t.Helper()
	if k, f, isNil := parse(text); !isNil || !same(k, want) {
		t.Errorf("Parse(%q) = %v, %v, not %v", brief(text), k, f, want)
	}
}

// refuses looks at a text that tells none.
func refuses(t *testing.T, text string, code api.Errno, at int) {
	t.Helper()
	if k, f, isNil := parse(text); isNil || !same(k, api.Table{}) || f != (fault{code, at}) {
		t.Errorf("Parse(%q) = %v, %v, %v, not %d at %d", brief(text), k, f, isNil, code, at)
	}
}

// behind looks at a text that T begins and that is refused at a place of what stands behind T.
func behind(t *testing.T, text string, code api.Errno, at int) {
	t.Helper()
	for _, end := range []string{"", "\n", "\r\n", "  \n", "\t \r\n# so\n", "\nx"} { // what stands behind the first fault is not looked at
		refuses(t, four+text+end, code, len(four)+at)
		refuses(t, four+" \t"+text+end, code, len(four)+2+at)
	}
}

func TestParseOfWhatDoesNotCount(t *testing.T) {
	want := fourTable()
	reads(t, four, want)
	reads(t, strings.TrimSuffix(four, "\n"), want)
	reads(t, strings.ReplaceAll(four, "\n", "\r\n"), want)
	reads(t, strings.TrimSuffix(strings.ReplaceAll(four, "\n", "\r\n"), "\n"), want) // a byte 13 at the text's end
	reads(t, strings.ReplaceAll(four, "\n", " \t \n"), want)
	reads(t, strings.ReplaceAll(four, "\n", "\t\r\n"), want)
	reads(t, " \t "+strings.ReplaceAll(four, "\n", "\n\t "), want)
	for _, line := range []string{"\n", "\n\n\n", "\r\n", " \n", "\t \t\r\n", "#\n", "# so\n", "  # n_states:4\n", "\t#var b={0}\r\n", "##,,,\n", "#\x00\xff\n", "# 0,0,0,0,0,0 \n\n#\n"} {
		reads(t, line+strings.ReplaceAll(four, "\n", "\n"+line), want)
		reads(t, strings.ReplaceAll(four, "\n", "\n"+line), want)
		reads(t, line+four, want)
		reads(t, four+strings.TrimSuffix(line, "\n"), want)
	}
}

func TestParseOfBlanksBetweenPieces(t *testing.T) {
	spread := strings.NewReplacer(":", " : ", ",", "\t,  ", "{", " {\t", "}", "  }", "=", "\t=\t", "var ", "var \t ")
	reads(t, spread.Replace(four), fourTable())
	reads(t, " n_states : 003 \nneighborhood\t:\tvonNeumann\nsymmetries  :  rotate4\n var  a  =  {  1 , 0,1}  \n 0 , 1 , a , a , a , 2 \n", fourTable())
	reads(t, three+"var\ta={0,1}\n01aaa2", fourTable())
	reads(t, three+"var a={0,1}\n\t01aaa2 \r", fourTable())
}

func TestParseOfRemarksAreLinesOfTheirOwn(t *testing.T) {
	refuses(t, "n_states:3 # so\n", api.ErrLine, 11)
	refuses(t, "n_states:#3\n", api.ErrStates, 9)
	behind(t, "0,1,1,1,1,1 #", api.ErrLine, 12)
	behind(t, "0,1,1,1,1,#", api.ErrLine, 10)
	behind(t, "01111#", api.ErrLine, 5)
	behind(t, "var b={0}#", api.ErrLine, 9)
	behind(t, "var #b={0}", api.ErrLine, 4)
}

// TestParseOfBytesThatAreNoBlanks: bytes 13 that do not stand at a line's end, and others that look like blanks.
func TestParseOfBytesThatAreNoBlanks(t *testing.T) {
	refuses(t, "\r\r\nn_states:3", api.ErrLine, 0)
	refuses(t, "\rn_states:3", api.ErrLine, 0)
	refuses(t, "n_states:3\r\r\n", api.ErrLine, 10)
	refuses(t, "n_states:3\r \n", api.ErrLine, 10)
	refuses(t, "n_states:\r3\n", api.ErrStates, 9)
	refuses(t, "n_states\r:3\n", api.ErrLine, 8)
	for _, b := range []string{"\r", "\v", "\f", "\x00", "\xa0", "\u00a0", "\u2028"} {
		behind(t, b+"0,1,1,1,1,1", api.ErrLine, 0)
		behind(t, "0"+b+",1,1,1,1,1", api.ErrLine, 1)
		behind(t, "0,"+b+"1,1,1,1,1", api.ErrLine, 2)
		behind(t, "0,1,1,1,1,1"+b+" ", api.ErrLine, 11)
		behind(t, "0"+b+"1111", api.ErrLine, 1)
		behind(t, "var"+b+"b={0}", api.ErrLine, 3)
		behind(t, "var b"+b+"={0}", api.ErrLine, 5)
		behind(t, "var b={0}"+b+"\t", api.ErrLine, 9)
	}
}

func TestParseOfHeadsWords(t *testing.T) {
	lines := []string{"n_states:3\n", "neighborhood:Moore\n", "symmetries:none\n"}
	begin := ""
	for i, line := range lines {
		at := len(begin)
		word, rest, _ := strings.Cut(line, ":")
		for _, wrong := range []string{
			":" + rest, "1" + line, "-" + line, "_" + line, "." + line, "x" + line, word[1:] + ":" + rest, word[:len(word)-1] + ":" + rest, word + "x:" + rest, word + "1:" + rest, word + "-:" + rest, word + "_ :" + rest,
			strings.ToUpper(word) + ":" + rest, strings.Repeat(word, 5) + ":" + rest, "0,1,1,1,1,1\n", "var a={0}\n", "x\n", "\xff\n", lines[(i+1)%3], lines[(i+2)%3], "=\n",
		} {
			refuses(t, begin+wrong, api.ErrLine, at)
			refuses(t, begin+"# so\n \t"+wrong, api.ErrLine, at+7)
		}
		for _, lacks := range []string{"", "x", "3", "=3", ".", "\r:"} {
			for _, blank := range []string{"", " ", "\t  "} {
				text := word + blank + lacks
				if blank == "" && (lacks == "x" || lacks == "3") {
					continue
				}
				where := at + len(text) - len(lacks)
				if lacks == "" { // the line's end is meant without the blanks
					where = at + len(word)
				}
				refuses(t, begin+text, api.ErrLine, where)
				refuses(t, begin+text+"\n"+rest, api.ErrLine, where)
			}
		}
		for _, more := range []string{"x", ",", ":", "#", "\r\r", "}", "é", "+"} {
			if i > 0 && more == "x" {
				more = ".x" // else the word goes on
			}
			refuses(t, begin+strings.TrimSpace(line)+more, api.ErrLine, at+len(line)-1)
			refuses(t, begin+strings.TrimSpace(line)+" \t"+more+"\n", api.ErrLine, at+len(line)+1)
			refuses(t, begin+strings.TrimSpace(line)+" 3"+more, api.ErrLine, at+len(line))
		}
		begin += line
	}
	reads(t, begin, api.Table{States: 3, Hood: api.Moore})
	refuses(t, begin+lines[0], api.ErrVar, len(begin)) // they stand there once: this is a row now
}

func TestParseOfNumbersOfStates(t *testing.T) {
	rest := "\nneighborhood:hexagonal\nsymmetries:none"
	for n := range 600 {
		for _, noughts := range []string{"", "0", "000", strings.Repeat("0", 50)} {
			text := "n_states:" + noughts + strconv.Itoa(n)
			if n < 2 || n > 256 {
				refuses(t, text+rest, api.ErrStates, 9)
				refuses(t, text+"x"+rest, api.ErrStates, 9) // ahead of what stands behind it
				continue
			}
			reads(t, text+rest, api.Table{States: n, Hood: api.Hex})
			refuses(t, text+"x"+rest, api.ErrLine, len(text))
		}
	}
	for _, wrong := range []string{"", "x", "-3", "+3", ".", "\r3", "0x3", "1_0", "9223372036854775807", "9223372036854775808", "18446744073709551619", "4294967299", strings.Repeat("9", 5000), strings.Repeat("0", 500) + strings.Repeat("7", 500)} {
		refuses(t, "n_states:"+wrong+rest, api.ErrStates, 9)
		refuses(t, "n_states:"+wrong, api.ErrStates, 9)
		if wrong != "" {
			refuses(t, "n_states : \t"+wrong+rest, api.ErrStates, 12)
		}
	}
	refuses(t, "n_states:   "+rest, api.ErrStates, 9) // the line ends ahead of the blanks
	refuses(t, "n_states:3.0"+rest, api.ErrLine, 10)
}

func TestParseOfNeighbourhoodsWords(t *testing.T) {
	for h, word := range hoodWord {
		begin := "n_states:2\nneighborhood:"
		reads(t, begin+word+"\nsymmetries:none", api.Table{States: 2, Hood: h})
		for _, wrong := range []string{"", "1" + word, "." + word, word + "x", word + "_", word + "1", word[1:], word[:len(word)-1], strings.ToUpper(word), strings.Repeat(word, 10), "8", "-", "\r" + word, "Hex", "Neumann", "none"} {
			refuses(t, begin+wrong+"\nsymmetries:none", api.ErrNear, len(begin))
			if wrong != "" {
				refuses(t, begin+" \t"+wrong, api.ErrNear, len(begin)+2)
			}
		}
		refuses(t, begin+" \t", api.ErrNear, len(begin))
		refuses(t, begin+word+".x", api.ErrLine, len(begin)+len(word))
		refuses(t, begin+word+" "+word, api.ErrLine, len(begin)+len(word)+1)
	}
}

func TestParseOfSymmetriesWords(t *testing.T) {
	for _, h := range hoods {
		begin := "n_states:2\nneighborhood:" + hoodWord[h] + "\nsymmetries:"
		for s := range uint8(11) {
			word := symmetries[s].word
			if (modelSuits(pair{s, h})) {
				reads(t, begin+word, api.Table{States: 2, Hood: h, Symmetry: s})
				reads(t, begin+" "+word+"\t\n", api.Table{States: 2, Hood: h, Symmetry: s})
				refuses(t, begin+word+",", api.ErrLine, len(begin)+len(word))
			} else {
				refuses(t, begin+word, api.ErrSymmetry, len(begin))
				refuses(t, begin+"  "+word+" x", api.ErrSymmetry, len(begin)+2)
			}
			for _, wrong := range []string{"1" + word, "." + word, word + "x", word + "-", word[1:], strings.ToUpper(word), strings.Repeat(word, 12)} {
				refuses(t, begin+wrong, api.ErrSymmetry, len(begin))
			}
		}
		for _, wrong := range []string{"", "0", "rotate", "rotate5", "reflect", "reflect_vertical", "rotate4_reflect", "-", "\rnone"} {
			refuses(t, begin+wrong+"\n", api.ErrSymmetry, len(begin))
		}
		refuses(t, begin+"  ", api.ErrSymmetry, len(begin))
	}
}

// modelSuits tells whether a symmetry is of a neighbourhood.
func modelSuits(p pair) bool {
	for _, q := range pairs() {
		if p == q {
			return true
		}
	}
	return false
}

func TestParseOfTextsThatEndAheadOfTheThirdLine(t *testing.T) {
	for _, text := range []string{
		"", "\n", "  ", "\r\n", "# so", "#\n\n \t\n", "n_states:3", "n_states:3\n", " n_states:3 \r\n # so \n\t", "n_states:3\n\n\n\n",
		"n_states:3\nneighborhood:Moore", "n_states:3\nneighborhood:Moore\n", "n_states:3\nneighborhood:Moore\n#symmetries:none", "n_states:3\nneighborhood:Moore\r\n\r\n  ",
	} {
		refuses(t, text, api.ErrLine, len(text))
	}
}

func TestParseOfVariables(t *testing.T) {
	k := fourTable()
	for line, v := range map[string]api.Var{
		"var b={0}":                     {Name: "b", States: []uint8{0}},
		"var b={2,0}":                   {Name: "b", States: []uint8{0, 2}},
		"var b={2,1,0,1,2}":             {Name: "b", States: []uint8{0, 1, 2}},
		"var b={a}":                     {Name: "b", States: []uint8{0, 1}},
		"var b={a,a,2,a}":               {Name: "b", States: []uint8{0, 1, 2}},
		"var b={1,a}":                   {Name: "b", States: []uint8{0, 1}},
		"var b={0002, 0000}":            {Name: "b", States: []uint8{0, 2}},
		"var A={1}":                     {Name: "A", States: []uint8{1}},
		"var var1={1}":                  {Name: "var1", States: []uint8{1}},
		"var Var={1}":                   {Name: "Var", States: []uint8{1}},
		"var n_states={1}":              {Name: "n_states", States: []uint8{1}},
		"var b-_9={1}":                  {Name: "b-_9", States: []uint8{1}},
		"var aa={a}":                    {Name: "aa", States: []uint8{0, 1}},
		"\tvar  b\t=  { 2\t, a } \t":    {Name: "b", States: []uint8{0, 1, 2}},
		"var b={" + noughts(500) + "1}": {Name: "b", States: []uint8{1}},
		"var " + strings.Repeat("b", 32) + "={2}": {Name: strings.Repeat("b", 32), States: []uint8{2}},
	} {
		want := clone(k)
		want.Vars = append(want.Vars, v)
		reads(t, four+line, want)
		want.Rows = append(want.Rows, row(va(1), va(1), st(0), va(0), st(0), va(0)))
		reads(t, four+line+"\n"+v.Name+", "+v.Name+",0,a,0,a\n", want)
	}
}

func noughts(n int) string { return strings.Repeat("0", n) }

func TestParseOfVariablesWithinVariables(t *testing.T) {
	text := "n_states:9\nneighborhood:hexagonal\nsymmetries:permute\nvar a={8}\nvar b={a,3}\nvar c={b,1,a}\n0a3bc10c\nvar d={c,c,b,0}\nvar e={d,d,2,7,c}\n"
	want := api.Table{States: 9, Hood: api.Hex, Symmetry: api.SymPermute, Vars: []api.Var{
		{Name: "a", States: []uint8{8}}, {Name: "b", States: []uint8{3, 8}}, {Name: "c", States: []uint8{1, 3, 8}},
		{Name: "d", States: []uint8{0, 1, 3, 8}}, {Name: "e", States: []uint8{0, 1, 2, 3, 7, 8}},
	}, Rows: []api.Trans{row(st(0), va(0), st(3), va(1), va(2), st(1), st(0), va(2))}}
	reads(t, text, want)
	refuses(t, text+"var f={e,f}", api.ErrVar, len(text)+9)
	refuses(t, text+"var f={g}\nvar g={0}", api.ErrVar, len(text)+7)
}

func TestParseOfVariablesFaults(t *testing.T) {
	long := strings.Repeat("b", 33)
	for text, want := range map[string]fault{
		"var":                           {api.ErrLine, 3},
		"var b":                         {api.ErrLine, 5},
		"var b=":                        {api.ErrLine, 6},
		"var b={":                       {api.ErrLine, 7},
		"var b={0":                      {api.ErrLine, 8},
		"var b={0,":                     {api.ErrLine, 9},
		"var b={0,1":                    {api.ErrLine, 10},
		"var b={}":                      {api.ErrLine, 7},
		"var b={ }":                     {api.ErrLine, 8},
		"var b={,}":                     {api.ErrLine, 7},
		"var b={0,}":                    {api.ErrLine, 9},
		"var b={0,,1}":                  {api.ErrLine, 9},
		"var b={,0}":                    {api.ErrLine, 7},
		"var b={0 1}":                   {api.ErrLine, 9},
		"var b={0a}":                    {api.ErrLine, 8},
		"var b={a 0}":                   {api.ErrLine, 9},
		"var b={a.}":                    {api.ErrLine, 8},
		"var b={-1}":                    {api.ErrLine, 7},
		"var b={+1}":                    {api.ErrLine, 7},
		"var b={_}":                     {api.ErrLine, 7},
		"var b={{0}}":                   {api.ErrLine, 7},
		"var b={0}}":                    {api.ErrLine, 9},
		"var b={0},":                    {api.ErrLine, 9},
		"var b={0} 1":                   {api.ErrLine, 10},
		"var b={0} # so":                {api.ErrLine, 10},
		"var b {0}":                     {api.ErrLine, 6},
		"var b:{0}":                     {api.ErrLine, 5},
		"var b 1={0}":                   {api.ErrLine, 6},
		"var b=0":                       {api.ErrLine, 6},
		"var b==":                       {api.ErrLine, 6},
		"var b= = {0}":                  {api.ErrLine, 7},
		"var b=(0)":                     {api.ErrLine, 6},
		"var={0}":                       {api.ErrLine, 3},
		"var,0,0,0,0,0":                 {api.ErrLine, 3},
		"var 1={0}":                     {api.ErrLine, 4},
		"var -b={0}":                    {api.ErrLine, 4},
		"var _b={0}":                    {api.ErrLine, 4},
		"var =b={0}":                    {api.ErrLine, 4},
		"var {0}":                       {api.ErrLine, 4},
		"var\xff":                       {api.ErrLine, 3},
		"var.b={0}":                     {api.ErrLine, 3},
		"var \xe4={0}":                  {api.ErrLine, 4},
		"var b\xe4={0}":                 {api.ErrLine, 5},
		"var a={0}":                     {api.ErrVar, 4},
		"var  a":                        {api.ErrVar, 5},
		"var a b":                       {api.ErrVar, 4},
		"var var={0}":                   {api.ErrVar, 4},
		"var var":                       {api.ErrVar, 4},
		"var " + long + "={0}":          {api.ErrVar, 4},
		"var " + long:                   {api.ErrVar, 4},
		"var \t" + long + long + "!":    {api.ErrVar, 5},
		"var b={" + long + "}":          {api.ErrVar, 7},
		"var b={0," + long + long + ".": {api.ErrVar, 9},
		"var b={0,c}":                   {api.ErrVar, 9},
		"var b={c":                      {api.ErrVar, 7},
		"var b={b}":                     {api.ErrVar, 7},
		"var b={A}":                     {api.ErrVar, 7},
		"var b={var}":                   {api.ErrVar, 7},
		"var b={a,aa}":                  {api.ErrVar, 9},
		"var b={a1}":                    {api.ErrVar, 7},
		"var b={3}":                     {api.ErrState, 7},
		"var b={3x}":                    {api.ErrState, 7},
		"var b={0, 003}":                {api.ErrState, 10},
		"var b={a,255,256}":             {api.ErrState, 9},
		"var b={256":                    {api.ErrState, 7},
		"var b={9223372036854775808}":   {api.ErrState, 7},
		"var b={18446744073709551617}":  {api.ErrState, 7},
		"var b={" + strings.Repeat("1", 3000) + "}": {api.ErrState, 7},
		"var b={3,c}": {api.ErrState, 7},
		"var b={c,3}": {api.ErrVar, 7},
		"var a={3}":   {api.ErrVar, 4},
		"var b {3}":   {api.ErrLine, 6},
	} {
		behind(t, text, want.code, want.at)
	}
}

func TestParseOfManyVariables(t *testing.T) {
	want := api.Table{States: 3, Hood: api.Neumann, Symmetry: api.SymRotate4}
	text := three
	for i := range api.MaxVars {
		name := "v" + strconv.Itoa(i)
		text += "var " + name + "={0,2}\n"
		want.Vars = append(want.Vars, api.Var{Name: name, States: []uint8{0, 2}})
	}
	reads(t, text, want)
	for _, one := range []string{"var b={0}", "var v0={0}", "var", "var,", "var \xff", "var b={3}", "var\tvar"} {
		refuses(t, text+one, api.ErrMany, len(text))
		refuses(t, text+"# so\n  "+one+"\n", api.ErrMany, len(text)+7)
	}
	want.Rows = []api.Trans{row(va(63), va(0), st(0), st(0), st(0), va(63))}
	reads(t, text+"v63,v0,0,0,0,v63", want)
	refuses(t, text+"var1,0,0,0,0,0", api.ErrVar, len(text)) // a row, for its name is not var
}

func TestParseOfRows(t *testing.T) {
	for line, r := range map[string]api.Trans{
		"0,1,2,a,1,2":                row(st(0), st(1), st(2), va(0), st(1), st(2)),
		"012a12":                     row(st(0), st(1), st(2), va(0), st(1), st(2)),
		" 0 ,\t1, 2 ,a , 1 , 2 \t":   row(st(0), st(1), st(2), va(0), st(1), st(2)),
		"00,001,0002,a,01,0000002":   row(st(0), st(1), st(2), va(0), st(1), st(2)),
		"a,0,0,0,0,a":                row(va(0), st(0), st(0), st(0), st(0), va(0)),
		"a0000a":                     row(va(0), st(0), st(0), st(0), st(0), va(0)),
		"0,0,0,0,a,a":                row(st(0), st(0), st(0), st(0), va(0), va(0)),
		"000aba":                     row(st(0), st(0), st(0), va(0), va(1), va(0)),
		"\tbbbbbb":                   row(va(1), va(1), va(1), va(1), va(1), va(1)),
		"var1,b,a,var1,a,var1":       row(va(2), va(1), va(0), va(2), va(0), va(2)),
		"bvarbr":                     row(va(1), va(3), va(0), va(4), va(1), va(4)),
		"varrrr":                     row(va(3), va(0), va(4), va(4), va(4), va(4)),
		"var000":                     row(va(3), va(0), va(4), st(0), st(0), st(0)),
		"v,a,r,0,0,0":                row(va(3), va(0), va(4), st(0), st(0), st(0)),
		noughts(300) + "2,1,1,1,1,1": row(st(2), st(1), st(1), st(1), st(1), st(1)),
	} {
		want := fourTable()
		more := "var b={2}\nvar var1={0}\nvar v={1}\nvar r={0,2}\n"
		want.Vars = append(want.Vars, api.Var{Name: "b", States: []uint8{2}}, api.Var{Name: "var1", States: []uint8{0}}, api.Var{Name: "v", States: []uint8{1}}, api.Var{Name: "r", States: []uint8{0, 2}})
		want.Rows = append(want.Rows, r)
		reads(t, four+more+line, want)
		want.Rows = append(want.Rows, fourTable().Rows[0])
		reads(t, four+more+line+"\n01aaa2\n", want)
	}
}

func TestParseOfRowsOfEachNeighbourhood(t *testing.T) {
	for _, p := range pairs() {
		begin := "n_states:2\nneighborhood:" + hoodWord[p.hood] + "\nsymmetries:" + symmetries[p.symmetry].word + "\nvar q={1}\n"
		n := sizes[p.hood]
		for terms := 2; terms < 14; terms++ {
			with, without := strings.Repeat("1,", terms-1)+"0", strings.Repeat("1", terms-1)+"0"
			if terms != n+2 {
				refuses(t, begin+with, api.ErrTrans, len(begin))
				refuses(t, begin+" "+without+"\n", api.ErrTrans, len(begin)+1)
				continue
			}
			want := api.Table{States: 2, Hood: p.hood, Symmetry: p.symmetry, Vars: []api.Var{{Name: "q", States: []uint8{1}}}, Rows: manyRows(1, p.hood)}
			want.Rows[0].Centre, want.Rows[0].Out = st(1), st(0)
			reads(t, begin+with, want)
			reads(t, begin+without, want)
			refuses(t, begin+strings.Repeat("1,", n+1)+"q", api.ErrVar, len(begin)+2*n+2)
			refuses(t, begin+strings.Repeat("1", n+1)+"q", api.ErrVar, len(begin)+n+1)
		}
	}
}

func TestParseOfRowsFaults(t *testing.T) {
	long := strings.Repeat("a", 33)
	for text, want := range map[string]fault{
		"0,3":                                  {api.ErrState, 2},
		"3,0":                                  {api.ErrState, 0},
		"0,1,1,1,1,3":                          {api.ErrState, 10},
		"0,1,1,1,1,1,3":                        {api.ErrState, 12},
		"0, 256,":                              {api.ErrState, 3},
		"0,9223372036854775808,":               {api.ErrState, 2},
		"0,18446744073709551616":               {api.ErrState, 2},
		"0," + strings.Repeat("2", 2000) + "x": {api.ErrState, 2},
		"03":                                   {api.ErrState, 1},
		"011113":                               {api.ErrState, 5},
		"01111112":                             {api.ErrTrans, 0},
		"0,b":                                  {api.ErrVar, 2},
		"b,0":                                  {api.ErrVar, 0},
		"0, A,":                                {api.ErrVar, 3},
		"0,aa":                                 {api.ErrVar, 2},
		"0,a-,":                                {api.ErrVar, 2},
		"0,var,":                               {api.ErrVar, 2},
		"0," + long:                            {api.ErrVar, 2},
		long + ",0":                            {api.ErrVar, 0},
		"0b":                                   {api.ErrVar, 1},
		"b":                                    {api.ErrVar, 0},
		"0A1":                                  {api.ErrVar, 1},
		"vara":                                 {api.ErrVar, 0},
		"vara={0}":                             {api.ErrVar, 0},
		"vara={0,1}":                           {api.ErrVar, 0},
		"var1,0":                               {api.ErrVar, 0},
		"Var b={0}":                            {api.ErrVar, 0},
		long:                                   {api.ErrTrans, 0},
		"0":                                    {api.ErrTrans, 0},
		"a":                                    {api.ErrTrans, 0},
		"0,1":                                  {api.ErrTrans, 0},
		"0,1,1,1,1":                            {api.ErrTrans, 0},
		"0,1,1,1,1,1,1":                        {api.ErrTrans, 0},
		"01111":                                {api.ErrTrans, 0},
		"0111111":                              {api.ErrTrans, 0},
		"0,1,1,1,a":                            {api.ErrTrans, 0},
		"0,1,1,1,1,1,a":                        {api.ErrTrans, 0},
		"0111a":                                {api.ErrTrans, 0},
		"0,1,1,1,1,a":                          {api.ErrVar, 10},
		"0 , 1,1,1,1 ,\t a":                    {api.ErrVar, 15},
		"01111a":                               {api.ErrVar, 5},
		"0,1,":                                 {api.ErrLine, 4},
		"0,1,1,1,1,":                           {api.ErrLine, 10},
		"0,1,1,1,1,1,":                         {api.ErrLine, 12},
		"0,,":                                  {api.ErrLine, 2},
		",":                                    {api.ErrLine, 0},
		",0,1,1,1,1,1":                         {api.ErrLine, 0},
		"0,1 1,1,1,1":                          {api.ErrLine, 4},
		"0,1a,1,1,1":                           {api.ErrLine, 3},
		"0,a 1,":                               {api.ErrLine, 4},
		"0,a.b,":                               {api.ErrLine, 3},
		"0,1,1,1,1,1 1":                        {api.ErrLine, 12},
		"0,1,1,1,1,1;":                         {api.ErrLine, 11},
		"0,-1,":                                {api.ErrLine, 2},
		"0,+1,":                                {api.ErrLine, 2},
		"0,_,":                                 {api.ErrLine, 2},
		"0,1-1":                                {api.ErrLine, 3},
		"0,0x1":                                {api.ErrLine, 3},
		"0,\xff":                               {api.ErrLine, 2},
		"0\xff,":                               {api.ErrLine, 1},
		"0,\xc3\xa9":                           {api.ErrLine, 2},
		"0 1":                                  {api.ErrLine, 1},
		"0 1,":                                 {api.ErrLine, 2},
		"0\t1111 2":                            {api.ErrLine, 1},
		"0-1":                                  {api.ErrLine, 1},
		"-":                                    {api.ErrLine, 0},
		"_":                                    {api.ErrLine, 0},
		"a_a":                                  {api.ErrLine, 1},
		"a-1":                                  {api.ErrLine, 1},
		"\xc3\xa9":                             {api.ErrLine, 0},
		"01\xff":                               {api.ErrLine, 2},
		"01111:":                               {api.ErrLine, 5},
		"0111111:":                             {api.ErrLine, 7},
		"!":                                    {api.ErrLine, 0},
		"=":                                    {api.ErrLine, 0},
		"{0}":                                  {api.ErrLine, 0},
		"0,3,b,,":                              {api.ErrState, 2},
		"0,b,3,,":                              {api.ErrVar, 2},
		"0,,b,3":                               {api.ErrLine, 2},
		"0,a,a,a,a,a,,":                        {api.ErrLine, 12},
		"0,a,a,a,a,a,b":                        {api.ErrVar, 12},
		"3b-":                                  {api.ErrState, 0},
		"b3-":                                  {api.ErrVar, 0},
		"-3b":                                  {api.ErrLine, 0},
	} {
		if text[0] == '#' {
			t.Fatal(text)
		}
		behind(t, text, want.code, want.at)
	}
}

// TestParseOfDigitsOneByOne: without a comma each digit is a state, whatever the number of states.
func TestParseOfDigitsOneByOne(t *testing.T) {
	for states := 2; states <= 12; states++ {
		begin := "n_states:" + strconv.Itoa(states) + "\nneighborhood:vonNeumann\nsymmetries:none\n"
		for d := range 10 {
			for at := range 6 {
				line := []byte("000000")
				line[at] = byte('0' + d)
				if d >= states {
					refuses(t, begin+string(line), api.ErrState, len(begin)+at)
					continue
				}
				want := api.Table{States: states, Hood: api.Neumann, Rows: []api.Trans{row(st(0), st(0), st(0), st(0), st(0), st(0))}}
				setTerm(&want.Rows[0], at, st(uint8(d)))
				reads(t, begin+string(line), want)
			}
		}
	}
}

func TestParseOfAllStates(t *testing.T) {
	text := "n_states:256\nneighborhood:vonNeumann\nsymmetries:none\nvar all={"
	want := api.Table{States: 256, Hood: api.Neumann, Vars: []api.Var{{Name: "all"}}}
	for s := range 256 {
		text += strconv.Itoa(255-s) + ","
		want.Vars[0].States = append(want.Vars[0].States, uint8(s))
		want.Rows = append(want.Rows, row(st(uint8(s)), st(255), va(0), st(0), st(uint8(255-s)), st(uint8(s))))
	}
	text += "0}\n"
	for s := range 256 {
		n := strconv.Itoa(s)
		text += n + ",255,all,0," + strconv.Itoa(255-s) + "," + n + "\n"
	}
	reads(t, text, want)
	refuses(t, text+"256,0", api.ErrState, len(text))
}

func TestParseOfManyRows(t *testing.T) {
	want := fourTable()
	var b strings.Builder
	b.WriteString(three + "var a={0,1}\n")
	want.Rows = nil
	for i := range api.MaxRows {
		d := uint8(i % 3)
		want.Rows = append(want.Rows, row(st(d), va(0), st(1), st(0), st(d), st(1)))
		n := strconv.Itoa(int(d))
		if i%2 == 0 {
			b.WriteString(n + ",a,1,0," + n + ",1\n")
		} else {
			b.WriteString(n + "a10" + n + "1\n")
		}
	}
	text := b.String()
	reads(t, text, want)
	for _, one := range []string{"0,1,1,1,1,1", "011111", "3", "b", "!", ",", "x={0}", "vara={0}", "var1={0,1}"} {
		refuses(t, text+one, api.ErrMany, len(text))
		refuses(t, text+"\n#\n \t"+one+"\n", api.ErrMany, len(text)+5)
	}
	want.Vars = append(want.Vars, api.Var{Name: "b", States: []uint8{0, 1}})
	reads(t, text+"var b={a}\n", want) // variables may go on
	refuses(t, text+"var a={0}\n", api.ErrVar, len(text)+4)
}

func TestParseOfLongTexts(t *testing.T) {
	fill := func(begin, middle, end string) string {
		return begin + strings.Repeat(middle, api.MaxText)[:api.MaxText-len(begin)-len(end)] + end
	}
	want := fourTable()
	reads(t, fill(four, "\n", ""), want)
	reads(t, fill(four, "# so\n", ""), want)
	reads(t, fill(four, " ", ""), want)
	reads(t, fill(four+"#", "x", ""), want)
	reads(t, fill("", " ", four), want)
	reads(t, fill("n_states:", "0", four[len("n_states:"):]), want)
	reads(t, fill(three+"var a={", "0", "1,0}\n01aaa2"), want)
	reads(t, fill(three+"var a={0", ",1,0", "  ,1}\n01aaa2"), want)
	reads(t, fill(three+"var a={0,1}\n", "0", ",1,a,a,a,2"), want)
	for _, text := range []string{fill(four, "\n", ""), fill(four, "x", ""), fill("", "x", ""), fill("", "\n", ""), fill("n_states:1", "#", "")} {
		refuses(t, text+"\n", api.ErrText, 0)
		refuses(t, text+text, api.ErrText, 0)
	}
	refuses(t, fill("", "\n", ""), api.ErrLine, api.MaxText)
	refuses(t, fill("", "x", ""), api.ErrLine, 0)
	refuses(t, fill("n_states:", "9", ""), api.ErrStates, 9)
	refuses(t, fill("n_states:3\nneighborhood:", "v", ""), api.ErrNear, 24)
	refuses(t, fill(four, "0,", "  "), api.ErrLine, api.MaxText-2)
	refuses(t, fill(four, "0,", " 1"), api.ErrTrans, len(four))
	refuses(t, fill(four, "a", ""), api.ErrTrans, len(four))
	refuses(t, fill(four, "a", "!"), api.ErrLine, api.MaxText-1)
	refuses(t, fill(four+"var b={", "9", ""), api.ErrState, len(four)+7)
	refuses(t, fill(four+"var ", "b", ""), api.ErrVar, len(four)+4)
	refuses(t, fill(four+"var b={0", ",a", ""), api.ErrLine, api.MaxText)
}

// TestParseAnswersAnErrorThatWraps: the fault is asked with errors.As, and the error tells a text.
func TestParseAnswersAnErrorThatWraps(t *testing.T) {
	for text, want := range map[string]api.Fault{"": {Code: api.ErrLine}, four + "0,3": {Code: api.ErrState, At: 80}, strings.Repeat("x", api.MaxText+1): {Code: api.ErrText}} {
		k, err := table.Parse(text)
		var f *api.Fault
		if err == nil || !errors.As(err, &f) || *f != want || !same(k, api.Table{}) {
			t.Errorf("Parse(%q) = %v, %v", brief(text), k, err)
			continue
		}
		if err.Error() == "" || errors.Unwrap(err) == nil {
			t.Errorf("Parse(%q): the error tells %q and wraps %v", brief(text), err, errors.Unwrap(err))
		}
		*f = api.Fault{} // it is the caller's own
		if _, again, _ := parse(text); again != (fault{want.Code, want.At}) {
			t.Errorf("Parse(%q) came to be %v", brief(text), again)
		}
	}
	if _, err := table.Parse(four); err != nil {
		t.Error(err)
	}
}
