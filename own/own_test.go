package own_test

import (
	"reflect"
	"testing"

	"vivarium/api"
	"vivarium/own"
)

// table is a rule with every list filled.
func table() api.Rule {
	return api.Rule{Kind: api.KindTable, Name: "t", Table: api.Table{
		States: 3, Hood: api.Neumann, Symmetry: api.SymRotate4,
		Vars: []api.Var{{Name: "a", States: []uint8{0, 1}}, {Name: "b", States: []uint8{2}}},
		Rows: []api.Trans{{Around: []api.Term{{State: 1, Var: -1}, {}, {Var: 1}, {}}}, {Around: make([]api.Term, 4)}},
	}}
}

// TestRuleIsTheSame: of every kind.
func TestRuleIsTheSame(t *testing.T) {
	births := api.Rule{Kind: api.KindLife, Gens: api.Gens{Life: api.Life{Hood: api.Moore, Born: 8, Stay: 12}, States: 2}}
	for _, r := range []api.Rule{{}, births, {Kind: 9, Name: "x"}, table()} {
		if got := own.Rule(r); !reflect.DeepEqual(got, r) {
			t.Errorf("%v, not %v", got, r)
		}
	}
}

// TestRuleSharesNothing: the lists that were handed in, and those that are answered, are written over.
func TestRuleSharesNothing(t *testing.T) {
	handed := table()
	got := own.Rule(handed)
	if !reflect.DeepEqual(handed, table()) {
		t.Fatalf("what was handed in is another: %v", handed)
	}
	spoil(handed)
	if !reflect.DeepEqual(got, table()) {
		t.Errorf("it shares with what was handed in: %v", got)
	}
	handed = table()
	spoil(own.Rule(handed))
	if !reflect.DeepEqual(handed, table()) {
		t.Errorf("what was handed in shares with it: %v", handed)
	}
}

// spoil writes over every list of a rule.
func spoil(r api.Rule) {
	for i, v := range r.Table.Vars {
		clear(v.States)
		r.Table.Vars[i] = api.Var{}
	}
	for i, row := range r.Table.Rows {
		clear(row.Around)
		r.Table.Rows[i] = api.Trans{}
	}
}
