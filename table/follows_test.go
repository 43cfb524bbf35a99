package table_test

import (
	"slices"
	"strings"
	"testing"

	"vivarium/api"
	"vivarium/table"
)

// P10.7: what follows.

// chanceTables goes through tables by chance, of each symmetry with each neighbourhood, with a way to choose further.
func chanceTables(seed dice, each, rows int, see func(d *dice, k api.Table)) {
	for _, p := range pairs() {
		for range each {
			see(&seed, seed.table(p, seed.below(rows+1)))
		}
	}
}

func TestParseOfPrintIsTheTable(t *testing.T) {
	tables := []api.Table{fourTable(), base(), long(0), {States: 256, Hood: api.Hex, Symmetry: api.SymPermute}, {States: 2, Hood: api.Moore, Vars: manyVars(64), Rows: manyRows(4096, api.Moore)}}
	chanceTables(4, 60, 5, func(_ *dice, k api.Table) { tables = append(tables, k) })
	names := base()
	for _, name := range []string{"v", "var1", "var-", "Var", "a-b_c", "n_states", strings.Repeat("z", 32)} {
		names.Vars[0].Name = name
		tables = append(tables, clone(names))
		names.Rows[0].Centre, names.Rows[0].Out = va(0), va(0)
		tables = append(tables, clone(names))
	}
	for _, k := range tables {
		text := mustPrint(t, k)
		reads(t, text, k)
		prints(t, mustParse(t, text), text)
	}
}

func TestPrintOfWhatIsReadIsReadAsIt(t *testing.T) {
	texts := slices.Clone(good)
	d := dice(5)
	for len(texts) < 20000 {
		texts = append(texts, d.text())
	}
	n := 0
	for _, text := range texts {
		k, _, isNil := parse(text)
		if !isNil {
			continue
		}
		n++
		if e := table.Check(k); e != api.OK {
			t.Errorf("Parse(%q) answers what may not be: %d", text, e)
		}
		reads(t, mustPrint(t, k), k)
	}
	if n < 500 {
		t.Errorf("%d texts were read", n)
	}
}

// TestPrintOfWhatIsReadMayBeTooLong: rows without commas have fewer bytes than in the one form.
func TestPrintOfWhatIsReadMayBeTooLong(t *testing.T) {
	const line, times = "0000000000\n", 200
	text := mustPrint(t, long(-times*len(line))) + strings.Repeat(line, times)
	if len(text) != api.MaxText {
		t.Fatal(len(text))
	}
	noPrint(t, mustParse(t, text), api.ErrText)
}

// TestGroupsOrdersGoTogether: one behind the other is one of them again, and so is the one that takes back.
func TestGroupsOrdersGoTogether(t *testing.T) {
	for _, p := range pairs() {
		orders := mustGroup(t, p)
		step := 1 + len(orders)/100
		for i := 0; i < len(orders); i += step {
			back := make([]int, len(orders[i]))
			for a, b := range orders[i] {
				back[b] = a
			}
			if _, is := slices.BinarySearchFunc(orders, back, slices.Compare[[]int]); !is {
				t.Errorf("Group(%d, %d): what takes %v back is none of them", p.symmetry, p.hood, orders[i])
			}
			for j := 0; j < len(orders); j += step {
				both := make([]int, len(orders[i]))
				for a := range both {
					both[a] = orders[i][orders[j][a]]
				}
				if _, is := slices.BinarySearchFunc(orders, both, slices.Compare[[]int]); !is {
					t.Errorf("Group(%d, %d): %v behind %v is none of them", p.symmetry, p.hood, orders[i], orders[j])
				}
			}
		}
	}
}

// TestNextOfNeighboursInOtherOrders: it is the same, where what comes out hangs on no neighbour's variable.
func TestNextOfNeighboursInOtherOrders(t *testing.T) {
	changed := 0
	chanceTables(6, 60, 5, func(d *dice, k api.Table) {
		for i, r := range k.Rows {
			if r.Out.Var >= 0 && r.Out != r.Centre {
				k.Rows[i].Out = st(uint8(d.below(k.States)))
			}
		}
		centre, around := uint8(d.below(k.States)), d.states(sizes[k.Hood], k.States)
		if len(k.Rows) > 0 {
			centre, around = d.near(k, k.Rows[d.below(len(k.Rows))])
		}
		want := mustNext(t, k, centre, around)
		if want != centre {
			changed++
		}
		orders := mustGroup(t, pair{k.Symmetry, k.Hood})
		for i := 0; i < len(orders); i += 1 + len(orders)/50 {
			put := make([]uint8, len(around))
			for a, b := range orders[i] {
				put[a] = around[b]
			}
			next(t, k, centre, put, want)
		}
	})
	if changed < 100 {
		t.Errorf("%d changed", changed)
	}
}

// TestNextOfRowsOneByOne: without a symmetry each row stands for all states of its variables.
func TestNextOfRowsOneByOne(t *testing.T) {
	d := dice(7)
	changed := 0
	for _, h := range hoods {
		for range 60 {
			k := d.table(pair{api.SymNone, h}, 1+d.below(4))
			plain := api.Table{States: k.States, Hood: h}
			for _, r := range k.Rows {
				for choice := range everyChoice(k, varsOf(r)) {
					written := api.Trans{Centre: st(worth(r.Centre, choice)), Out: st(worth(r.Out, choice))}
					for _, term := range r.Around {
						written.Around = append(written.Around, st(worth(term, choice)))
					}
					plain.Rows = append(plain.Rows, written)
				}
			}
			if table.Check(plain) != api.OK {
				t.Fatal(table.Check(plain), len(plain.Rows))
			}
			for range 60 {
				centre, around := d.near(k, k.Rows[d.below(len(k.Rows))])
				want := mustNext(t, plain, centre, around)
				next(t, k, centre, around, want)
				if want != centre {
					changed++
				}
			}
		}
	}
	if changed < 1000 {
		t.Errorf("%d changed", changed)
	}
}
