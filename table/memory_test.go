package table_test

import (
	"slices"
	"testing"

	"vivarium/api"
	"vivarium/table"
)

// What is handed in stays as it was, its spare room too; what is answered is the caller's own.

// roomy is a list with spare room behind it, in which stands junk.
func roomy[T any](list []T, junk T) []T {
	return append(slices.Clone(list), junk, junk, junk)[:len(list)]
}

// roomyTable is a table all of whose lists have spare room.
func roomyTable(k api.Table) api.Table {
	k = clone(k)
	k.Vars = roomy(k.Vars, api.Var{Name: "junk"})
	k.Rows = roomy(k.Rows, api.Trans{Out: st(77)})
	for i, v := range k.Vars {
		k.Vars[i].States = roomy(v.States, 77)
	}
	for i, r := range k.Rows {
		k.Rows[i].Around = roomy(r.Around, st(77))
	}
	return k
}

// whole is a table with its lists up to the end of their spare room.
func whole(k api.Table) api.Table {
	k.Vars, k.Rows = slices.Clone(k.Vars[:cap(k.Vars)]), slices.Clone(k.Rows[:cap(k.Rows)])
	for i, v := range k.Vars {
		k.Vars[i].States = v.States[:cap(v.States)]
	}
	for i, r := range k.Rows {
		k.Rows[i].Around = r.Around[:cap(r.Around)]
	}
	return k
}

func TestWhatIsHandedInStays(t *testing.T) {
	d := dice(8)
	for _, p := range pairs() {
		for range 5 {
			k := roomyTable(d.table(p, 3))
			centre, near := d.near(k, k.Rows[0])
			around := roomy(near, 77)
			before, beforeAround := clone(whole(k)), slices.Clone(around[:cap(around)])
			table.Check(k)
			table.Print(k)
			for r := range 3 {
				table.Fits(k, r, centre, around)
			}
			table.Next(k, centre, around)
			if !same(whole(k), before) || !slices.Equal(around[:cap(around)], beforeAround) {
				t.Errorf("%v, %v came to be %v, %v", before, beforeAround, whole(k), around[:cap(around)])
			}
		}
	}
}

// spoil writes over all that a table holds, list by list, and looks whether anything but that list changed.
func spoil(t *testing.T, k api.Table) {
	t.Helper()
	for i := range k.Vars {
		before := clone(k)
		list := k.Vars[i].States[:cap(k.Vars[i].States)]
		for j := range list {
			list[j] = 99
		}
		copy(before.Vars[i].States, list)
		if !same(k, before) {
			t.Errorf("the variable %d shares its list", i)
		}
	}
	for i := range k.Rows {
		before := clone(k)
		list := k.Rows[i].Around[:cap(k.Rows[i].Around)]
		for j := range list {
			list[j] = st(99)
		}
		copy(before.Rows[i].Around, list)
		if !same(k, before) {
			t.Errorf("the row %d shares its list", i)
		}
	}
	clear(k.Vars[:cap(k.Vars)])
	clear(k.Rows[:cap(k.Rows)])
}

func TestWhatParseAnswersIsTheCallersOwn(t *testing.T) {
	for _, text := range append(slices.Clone(good), three+"var a={0,1}\nvar b={a}\nvar c={b}\nvar d={c,2}\n01aab2\ncddccc\nc,d,d,c,c,d\n") {
		first, second := mustParse(t, text), mustParse(t, text)
		want := clone(first)
		spoil(t, first)
		if !same(second, want) {
			t.Errorf("Parse(%q): what was done to an answer is seen in another", text)
		}
		reads(t, text, want)
	}
}
