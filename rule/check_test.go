package rule_test

import (
	"math"
	"strings"
	"testing"

	"vivarium/api"
	"vivarium/rule"
)

// P12.3, P12.4: which rules may be, their texts, states and neighbourhoods.

// spoiling are changes of a rule that each are the same fault.
type spoiling struct {
	e    api.Errno
	ways []func(r *api.Rule)
}

func setStates(list ...int) []func(r *api.Rule) {
	var ways []func(r *api.Rule)
	for _, n := range list {
		ways = append(ways, func(r *api.Rule) { r.Gens.States = n })
	}
	return ways
}

func setNames(list ...string) []func(r *api.Rule) {
	var ways []func(r *api.Rule)
	for _, s := range list {
		ways = append(ways, func(r *api.Rule) { r.Name = s })
	}
	return ways
}

// noKind is a fault of every rule.
var noKind = []func(r *api.Rule){
	func(r *api.Rule) { r.Kind = 0 },
	func(r *api.Rule) { r.Kind = 4 },
	func(r *api.Rule) { r.Kind = 255 },
}

// tableOfCounts are faults of rules that only count.
var tableOfCounts = []func(r *api.Rule){
	func(r *api.Rule) { r.Name = "a" },
	func(r *api.Rule) { r.Name = "1" },
	func(r *api.Rule) { r.Table.States = 2 },
	func(r *api.Rule) { r.Table.States = -1 },
	func(r *api.Rule) { r.Table.Hood = api.Moore },
	func(r *api.Rule) { r.Table.Hood = 255 },
	func(r *api.Rule) { r.Table.Symmetry = api.SymRotate4 },
	func(r *api.Rule) { r.Table.Vars = []api.Var{{}} },
	func(r *api.Rule) { r.Table.Rows = []api.Trans{{}} },
	func(r *api.Rule) { r.Name, r.Table = "t", ruleT().Table },
}

// lifeFaults are those of the births and stays.
var lifeFaults = []spoiling{
	{api.ErrHood, []func(r *api.Rule){
		func(r *api.Rule) { r.Gens.Life.Hood = 0 },
		func(r *api.Rule) { r.Gens.Life.Hood = 4 },
		func(r *api.Rule) { r.Gens.Life.Hood = 255 },
	}},
	{api.ErrCount, []func(r *api.Rule){
		func(r *api.Rule) { r.Gens.Life.Born |= 1 << 9 },
		func(r *api.Rule) { r.Gens.Life.Stay |= 1 << 15 },
	}},
}

// faults are those of a kind, in the chapter's order. (A later one does not mend an earlier one.)
var faults = map[uint8][]spoiling{
	api.KindLife: append([]spoiling{{api.ErrRule, append(noKind, tableOfCounts...)}}, append(lifeFaults,
		spoiling{api.ErrGens, setStates(0, 1, 3, -2, 256, math.MaxInt, math.MinInt)})...),
	api.KindGens: append([]spoiling{{api.ErrRule, append(noKind, tableOfCounts...)}}, append(lifeFaults,
		spoiling{api.ErrGens, setStates(0, 1, 257, -2, math.MaxInt, math.MinInt)})...),
	api.KindTable: {
		{api.ErrRule, append(noKind,
			func(r *api.Rule) { r.Gens.Life.Hood = api.Moore },
			func(r *api.Rule) { r.Gens.Life.Born = 1 },
			func(r *api.Rule) { r.Gens.Life.Stay = 1 },
			func(r *api.Rule) { r.Gens.States = 2 },
			func(r *api.Rule) { r.Gens.States = -1 },
			func(r *api.Rule) { r.Gens = fading(api.Moore, 3).Gens },
		)},
		{api.ErrName, setNames(noNames...)},
		{api.ErrStates, []func(r *api.Rule){
			func(r *api.Rule) { r.Table.States = 0 },
			func(r *api.Rule) { r.Table.States = 1 },
			func(r *api.Rule) { r.Table.States = 257 },
			func(r *api.Rule) { r.Table.States = -1 },
		}},
		{api.ErrHood, []func(r *api.Rule){
			func(r *api.Rule) { r.Table.Hood = 0 },
			func(r *api.Rule) { r.Table.Hood = 4 },
		}},
		{api.ErrSymmetry, []func(r *api.Rule){
			func(r *api.Rule) { r.Table.Symmetry = 11 },
			func(r *api.Rule) { r.Table.Symmetry = api.SymRotate8 },
			func(r *api.Rule) { r.Table.Symmetry = api.SymRotate6 },
		}},
		{api.ErrMany, []func(r *api.Rule){
			func(r *api.Rule) { r.Table.Vars = make([]api.Var, api.MaxVars+1) },
			func(r *api.Rule) { r.Table.Rows = make([]api.Trans, api.MaxRows+1) },
		}},
		{api.ErrVar, []func(r *api.Rule){
			func(r *api.Rule) { r.Table.Vars = append(r.Table.Vars, api.Var{Name: "var", States: []uint8{0}}) },
			func(r *api.Rule) { r.Table.Vars = append(r.Table.Vars, api.Var{Name: "a", States: []uint8{0}}) },
			func(r *api.Rule) { r.Table.Vars = append(r.Table.Vars, api.Var{Name: "b"}) },
			func(r *api.Rule) { r.Table.Vars = append(r.Table.Vars, api.Var{Name: "b", States: []uint8{1, 0}}) },
			func(r *api.Rule) { r.Table.Vars = append(r.Table.Vars, api.Var{Name: "b", States: []uint8{255}}) },
		}},
		{api.ErrTrans, []func(r *api.Rule){
			func(r *api.Rule) { r.Table.Rows = append(r.Table.Rows, lineOf(0, 0, 0, 0, 0)) },
			func(r *api.Rule) { r.Table.Rows = append(r.Table.Rows, lineOf(0, 0, 0, 0, 0, 255)) },
			func(r *api.Rule) {
				r.Table.Rows = append(r.Table.Rows, line(st(0), st(0), st(0), st(0), st(0), va(0))) // a variable that stands nowhere
			},
			func(r *api.Rule) {
				r.Table.Rows = append(r.Table.Rows, line(st(0), st(0), st(0), st(0), va(64), st(0)))
			},
		}},
	},
}

// goodRules are one of each kind and neighbourhood, and tables of either list empty.
func goodRules() []api.Rule {
	d := dice(3)
	list := []api.Rule{ruleT(), ruleW(), tabled(api.Table{States: 2, Hood: api.Hex}), tabled(api.Table{States: 256, Hood: api.Moore, Vars: []api.Var{anyState("a", 256)}})}
	for _, h := range hoods {
		for range 4 {
			list = append(list, d.counts(h))
		}
		list = append(list, fading(h, 2), fading(h, 256))
	}
	for _, p := range pairs {
		list = append(list, d.table(p, 3, 5, outAny))
	}
	return list
}

func TestCheckTakes(t *testing.T) {
	for _, r := range goodRules() {
		if e := rule.Check(r); e != api.OK {
			t.Errorf("Check(%v): %d", r, e)
		}
	}
	for _, name := range names {
		if e := rule.Check(api.Rule{Kind: api.KindTable, Name: name, Table: ruleW().Table}); e != api.OK {
			t.Errorf("Check of the name %q: %d", name, e)
		}
	}
}

func TestCheckEmptyLists(t *testing.T) {
	for _, r := range []api.Rule{born(t, "B3/S23"), fading(api.Hex, 7), tabled(api.Table{States: 2, Hood: api.Hex})} {
		r.Table.Vars, r.Table.Rows = []api.Var{}, []api.Trans{}
		if e := rule.Check(r); e != api.OK {
			t.Errorf("Check(%v): %d", r, e)
		}
		r.Table.Vars, r.Table.Rows = make([]api.Var, 3)[:0], make([]api.Trans, 3)[:0]
		if e := rule.Check(r); e != api.OK {
			t.Errorf("Check(%v) with spare room: %d", r, e)
		}
	}
}

// sound is the rule of a kind that is spoilt.
func sound(t *testing.T, kind uint8) api.Rule {
	switch kind {
	case api.KindLife:
		return born(t, "B3/S23")
	case api.KindGens:
		return fading(api.Moore, 4)
	}
	return ruleT()
}

// everySpoilt goes through all rules with one fault, each way, and all with several, each fault in a way that changes from one to the next.
func everySpoilt(t *testing.T, see func(r api.Rule, want api.Errno)) {
	for kind, list := range faults {
		for _, f := range list {
			for _, way := range f.ways {
				r := clone(sound(t, kind))
				way(&r)
				see(r, f.e)
			}
		}
		turn := 0
		for set := range 1 << len(list) {
			r := clone(sound(t, kind))
			want := api.OK
			for i := len(list) - 1; i >= 0; i-- {
				if set>>i&1 == 1 {
					list[i].ways[turn%len(list[i].ways)](&r)
					want = list[i].e
					turn++
				}
			}
			see(r, want)
		}
	}
}

func TestCheckFaults(t *testing.T) {
	count := 0
	everySpoilt(t, func(r api.Rule, want api.Errno) {
		count++
		if e := rule.Check(r); e != want {
			t.Errorf("Check(%v): %d, not %d", brief(r), e, want)
		}
	})
	if count < 300 {
		t.Errorf("only %d were looked at", count)
	}
}

func TestCheckZero(t *testing.T) {
	if e := rule.Check(api.Rule{}); e != api.ErrRule {
		t.Error(e)
	}
	for kind := range 256 {
		r := api.Rule{Kind: uint8(kind)}
		want := api.ErrRule
		switch r.Kind {
		case api.KindLife, api.KindGens:
			want = api.ErrHood
		case api.KindTable:
			want = api.ErrName
		}
		if e := rule.Check(r); e != want {
			t.Errorf("kind %d: %d, not %d", kind, e, want)
		}
	}
}

// TestOtherKinds: a rule of one kind, told to be of another, may not be.
func TestOtherKinds(t *testing.T) {
	for _, r := range goodRules() {
		for kind := range uint8(5) {
			x := r
			x.Kind = kind
			counts := r.Kind != api.KindTable
			want := api.ErrRule
			switch {
			case kind == r.Kind, kind == api.KindGens && counts, kind == api.KindLife && counts && r.Gens.States == 2:
				want = api.OK
			case kind == api.KindLife && counts:
				want = api.ErrGens
			}
			if e := rule.Check(x); e != want {
				t.Errorf("Check(%v): %d, not %d", brief(x), e, want)
			}
		}
	}
}

// TestFollowingTellErrRule: all calls but Check and Print tell ErrRule of a rule that may not be, whatever else they are handed, and nothing beside it; Print tells Check's error.
func TestFollowingTellErrRule(t *testing.T) {
	everySpoilt(t, func(r api.Rule, want api.Errno) {
		if want == api.OK {
			return
		}
		if s, e := rule.Print(r); s != "" || e != want {
			t.Errorf("Print(%v): %q, %d, not %d", brief(r), s, e, want)
		}
		if n, e := rule.States(r); n != 0 || e != api.ErrRule {
			t.Errorf("States(%v): %d, %d", brief(r), n, e)
		}
		if h, e := rule.Hood(r); h != 0 || e != api.ErrRule {
			t.Errorf("Hood(%v): %d, %d", brief(r), h, e)
		}
		for _, around := range [][]uint8{nil, {0, 0, 0, 0}, make([]uint8, 8), {255, 255, 255, 255}} {
			for _, centre := range []uint8{0, 1, 255} {
				if s, e := rule.Next(r, centre, around); s != 0 || e != api.ErrRule {
					t.Errorf("Next(%v): %d, %d", brief(r), s, e)
				}
			}
		}
		if is, e := rule.Quiet(r); is || e != api.ErrRule {
			t.Errorf("Quiet(%v): %v, %d", brief(r), is, e)
		}
		for _, part := range []int{-1, 0, 1, 7, 8, math.MaxInt} {
			if is, e := rule.Keeps(r, part); is || e != api.ErrRule {
				t.Errorf("Keeps(%v, %d): %v, %d", brief(r), part, is, e)
			}
		}
		if k, e := rule.Tree(r); k.States != 0 || k.Inputs != 0 || len(k.Nodes) != 0 || k.Root != 0 || e != api.ErrRule {
			t.Errorf("Tree(%v): %v, %d", brief(r), k, e)
		}
		if x, e := rule.Across(r); !same(x, api.Rule{}) || e != api.ErrRule {
			t.Errorf("Across(%v): %v, %d", brief(r), x, e)
		}
	})
}

func TestPrint(t *testing.T) {
	b := rule.New()
	for _, name := range names {
		define(t, b, name, textOf(2))
	}
	for s, want := range map[string]string{
		"B3/S23": "B3/S23", "b3/s32": "B3/S23", "B31/S4V": "B13/S4V", "b/sh": "B/SH",
		"345/2/4": "B2/S345/C4", "B2/S345/g04": "B2/S345/C4", "B3/S23/2": "B3/S23/C2", "//256": "B/S/C256", "b2/s34h/5": "B2/S34H/C5",
	} {
		r, _, e := b.Rule(s)
		if text, f := rule.Print(r); text != want || e != api.OK || f != api.OK {
			t.Errorf("Print of %q: %q, %d, %d", s, text, e, f)
		}
	}
	for _, name := range names {
		r, _, _ := b.Rule(name)
		if text, e := rule.Print(r); text != name || e != api.OK {
			t.Errorf("Print of %q: %q, %d", name, text, e)
		}
	}
	// the name is told whatever book has it, or none
	if text, e := rule.Print(api.Rule{Kind: api.KindTable, Name: strings.Repeat("q", 32), Table: ruleT().Table}); text != strings.Repeat("q", 32) || e != api.OK {
		t.Errorf("%q, %d", text, e)
	}
}

func TestStatesHood(t *testing.T) {
	for _, r := range goodRules() {
		if n, e := rule.States(r); n != statesOf(r) || e != api.OK {
			t.Errorf("States(%v): %d, %d", brief(r), n, e)
		}
		if h, e := rule.Hood(r); h != hoodOf(r) || e != api.OK {
			t.Errorf("Hood(%v): %d, %d", brief(r), h, e)
		}
	}
	for n := 2; n <= 256; n++ {
		for _, r := range []api.Rule{fading(api.Moore, n), tabled(api.Table{States: n, Hood: api.Hex})} {
			if got, e := rule.States(r); got != n || e != api.OK {
				t.Errorf("States(%v): %d, %d", r, got, e)
			}
		}
	}
}
