package table_test

import (
	"slices"
	"strings"
	"testing"

	"vivarium/api"
	"vivarium/table"
)

// The rows of the chapter's section Examples, in their order.

func TestExamplesOfParse(t *testing.T) {
	want := api.Table{
		States: 3, Hood: api.Neumann, Symmetry: api.SymRotate4,
		Vars: []api.Var{{Name: "a", States: []uint8{0, 1}}},
		Rows: []api.Trans{{
			Centre: api.Term{State: 0, Var: -1},
			Around: []api.Term{{State: 1, Var: -1}, {Var: 0}, {Var: 0}, {Var: 0}},
			Out:    api.Term{State: 2, Var: -1},
		}},
	}
	reads(t, four, want)
	lines := []string{" n_states : 003 ", "neighborhood:vonNeumann", "symmetries:rotate4", "var a = { 1 , 0,1}", "01aaa2"}
	for at := 0; at <= len(lines); at++ {
		reads(t, strings.Join(slices.Insert(slices.Clone(lines), at, "# so"), "\n"), want)
	}
}

func TestExamplesOfFaults(t *testing.T) {
	refuses(t, "n_states:1", api.ErrStates, 9)
	refuses(t, "", api.ErrLine, 0)
	refuses(t, "x", api.ErrLine, 0)
	refuses(t, "n_states 3", api.ErrLine, 9)
	refuses(t, "n_states:3x", api.ErrLine, 10)
	refuses(t, strings.Replace(four, "vonNeumann", "Hex", 1), api.ErrNear, 24)
	refuses(t, strings.Replace(four, "rotate4", "rotate8", 1), api.ErrSymmetry, 46)
	for text, want := range map[string]fault{
		"0,3": {api.ErrState, 80}, "0,b": {api.ErrVar, 80}, "0,1,1,1,1": {api.ErrTrans, 78}, "0,1,1,1,1,a": {api.ErrVar, 88},
		"0,1,": {api.ErrLine, 82}, "0,,": {api.ErrLine, 80}, "0 1": {api.ErrLine, 79},
	} {
		refuses(t, four+text, want.code, want.at)
	}
}

func TestExamplesOfPrint(t *testing.T) { prints(t, fourTable(), four) }

func TestExamplesOfFits(t *testing.T) {
	k := fourTable()
	fitsNot(t, k, 0, 0, []uint8{0, 0, 1, 1})
	fits(t, k, 0, 0, []uint8{0, 0, 0, 1}, 2)
	fitsNot(t, k, 0, 0, []uint8{2, 1, 0, 0})
	fitsNot(t, k, 0, 1, []uint8{1, 0, 0, 0})
}

func TestExamplesOfNext(t *testing.T) {
	k := fourTable()
	next(t, k, 0, []uint8{0, 0, 0, 1}, 2)
	next(t, k, 2, []uint8{0, 0, 0, 1}, 2)
	noNext(t, k, 3, []uint8{0, 0, 0, 1}, api.ErrState)
	noNext(t, k, 0, []uint8{0, 0, 0}, api.ErrArg)
}

func TestExamplesOfGroup(t *testing.T) {
	if g := mustGroup(t, pair{api.SymRotate4, api.Neumann}); !lists(g, [][]int{{0, 1, 2, 3}, {1, 2, 3, 0}, {2, 3, 0, 1}, {3, 0, 1, 2}}) {
		t.Error(g)
	}
	if g := mustGroup(t, pair{api.SymReflect, api.Neumann}); !lists(g, [][]int{{0, 1, 2, 3}, {0, 3, 2, 1}}) {
		t.Error(g)
	}
	if g := mustGroup(t, pair{api.SymRotate6, api.Hex}); len(g) != 6 {
		t.Error(g)
	}
	if g := mustGroup(t, pair{api.SymPermute, api.Neumann}); len(g) != 24 || !slices.Equal(g[23], []int{3, 2, 1, 0}) {
		t.Error(g)
	}
	for p, want := range map[pair]api.Errno{{11, 9}: api.ErrSymmetry, {api.SymRotate8, 9}: api.ErrHood, {api.SymRotate8, api.Neumann}: api.ErrSymmetry} {
		if g, e := table.Group(p.symmetry, p.hood); g != nil || e != want {
			t.Error(p, g, e)
		}
	}
}
