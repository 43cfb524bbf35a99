package table_test

import (
	"strconv"
	"strings"
	"testing"

	"vivarium/api"
	"vivarium/table"
)

// P10.3: a table's one form.

func prints(t *testing.T, k api.Table, want string) {
	t.Helper()
	if text, e := table.Print(k); text != want || e != api.OK {
		t.Errorf("Print(%v) = %q, %d, not %q", k, brief(text), e, brief(want))
	}
}

func noPrint(t *testing.T, k api.Table, want api.Errno) {
	t.Helper()
	if text, e := table.Print(k); text != "" || e != want {
		t.Errorf("Print = %q, %d, not %d", brief(text), e, want)
	}
}

func TestPrintOfTheFirstLines(t *testing.T) {
	for _, p := range pairs() {
		for _, states := range []int{2, 3, 10, 100, 256} {
			want := "n_states:" + strconv.Itoa(states) + "\nneighborhood:" + hoodWord[p.hood] + "\nsymmetries:" + symmetries[p.symmetry].word + "\n"
			prints(t, api.Table{States: states, Hood: p.hood, Symmetry: p.symmetry}, want)
			prints(t, api.Table{States: states, Hood: p.hood, Symmetry: p.symmetry, Vars: []api.Var{}, Rows: []api.Trans{}}, want)
		}
	}
}

func TestPrintOfVariablesAndRows(t *testing.T) {
	prints(t, fourTable(), four)
	prints(t, base(), "n_states:3\nneighborhood:vonNeumann\nsymmetries:rotate4\nvar a={0,1}\nvar b-2={0,1,2}\n0,1,a,a,a,2\nb-2,2,a,0,b-2,b-2\n")
	k := api.Table{States: 256, Hood: api.Hex, Symmetry: api.SymRotate6R, Vars: []api.Var{{Name: "Z_9", States: []uint8{0, 7, 10, 99, 100, 255}}}}
	k.Rows = []api.Trans{row(st(0), st(9), st(10), st(99), st(100), st(199), st(255), va(0), va(0)), row(va(0), va(0), va(0), va(0), va(0), va(0), va(0), st(0))}
	k.Rows[0].Around = k.Rows[0].Around[:6]
	k.Rows[0].Centre = va(0)
	prints(t, k, "n_states:256\nneighborhood:hexagonal\nsymmetries:rotate6reflect\nvar Z_9={0,7,10,99,100,255}\nZ_9,9,10,99,100,199,255,Z_9\nZ_9,Z_9,Z_9,Z_9,Z_9,Z_9,Z_9,0\n")
}

// TestPrintIsOneForm: texts that are read as one table are printed alike, with all variables ahead of the rows.
func TestPrintIsOneForm(t *testing.T) {
	want := three + "var a={0,1}\nvar b={0,1,2}\n0,1,a,a,a,2\nb,0,0,0,0,b\n"
	for _, text := range []string{
		want,
		" n_states : 0003\n#\nneighborhood :vonNeumann\r\nsymmetries:  rotate4\nvar a={1,0,1}\n01aaa2\n\nvar b={2,a}\nb0000b",
		three + "var a={0,1}\n00,01,a ,a,a,02\nvar b = { 2 , 1 , 0 }\nb,0,0,0,0,b",
	} {
		prints(t, mustParse(t, text), want)
	}
}

func TestPrintOfTablesThatMayNotBe(t *testing.T) {
	noPrint(t, api.Table{}, api.ErrStates)
	tooLong := long(1)
	tooLong.Rows[0].Centre = api.Term{Var: 64}
	noPrint(t, tooLong, api.ErrTrans) // ahead of the text's length
	for e, spoil := range map[api.Errno]func(k *api.Table){
		api.ErrStates:   func(k *api.Table) { k.States = 257 },
		api.ErrHood:     func(k *api.Table) { k.Hood = 0 },
		api.ErrSymmetry: func(k *api.Table) { k.Symmetry = api.SymRotate8 },
		api.ErrMany:     func(k *api.Table) { k.Rows = make([]api.Trans, 4097) },
		api.ErrVar:      func(k *api.Table) { k.Vars[1].Name = "a" },
		api.ErrTrans:    func(k *api.Table) { k.Rows[1].Out = api.Term{Var: 2} },
	} {
		k := base()
		spoil(&k)
		noPrint(t, k, e)
	}
}

// long is a table whose text has MaxText bytes, and so many more.
func long(more int) api.Table {
	k := api.Table{States: 2, Hood: api.Moore}
	left := api.MaxText + more - len("n_states:2\nneighborhood:Moore\nsymmetries:none\n")
	for n := 1; n <= 32; n++ {
		name := strings.Repeat("x", n)
		k.Vars = append(k.Vars, api.Var{Name: name, States: []uint8{0, 1}})
		left -= len("var " + name + "={0,1}\n")
	}
	const other = len(",,,,,,,,,0\n") // beside the names, of which there are nine in a row
	for left > 0 {
		length := min(left, other+9*32)
		if rest := left - length; rest > 0 && rest < other+9 {
			length -= other + 9
		}
		left -= length
		letters := length - other
		var terms []api.Term
		for i := range 9 {
			n := letters / (9 - i)
			letters -= n
			terms = append(terms, va(n-1))
		}
		k.Rows = append(k.Rows, row(append(terms, st(0))...))
	}
	return k
}

func TestPrintOfLongTexts(t *testing.T) {
	for _, more := range []int{-1, 0} {
		k := long(more)
		text := mustPrint(t, k)
		if len(text) != api.MaxText+more {
			t.Errorf("%d bytes", len(text))
		}
		reads(t, text, k)
	}
	for _, more := range []int{1, 2, 100, 100000} {
		noPrint(t, long(more), api.ErrText)
	}
	most := api.Table{States: 2, Hood: api.Moore, Vars: manyVars(api.MaxVars)}
	for range api.MaxRows {
		most.Rows = append(most.Rows, row(va(0), va(1), va(2), va(3), va(4), va(5), va(6), va(7), va(63), va(63)))
	}
	noPrint(t, most, api.ErrText)
	short := api.Table{States: 2, Hood: api.Moore, Rows: manyRows(api.MaxRows, api.Moore)}
	prints(t, short, "n_states:2\nneighborhood:Moore\nsymmetries:none\n"+strings.Repeat("0,1,1,1,1,1,1,1,1,1\n", api.MaxRows))
}
