package rule_test

import (
	"errors"
	"slices"
	"strconv"
	"strings"
	"testing"

	"vivarium/api"
	"vivarium/gens"
	"vivarium/life"
	"vivarium/rule"
)

// P12.1, P12.2: the book.

// textOf is the text of a table without rows.
func textOf(states int) string {
	return "n_states:" + strconv.Itoa(states) + "\nneighborhood:hexagonal\nsymmetries:none\n"
}

func TestDefineKeepsTables(t *testing.T) {
	b := rule.New()
	if l := b.Names(); len(l) != 0 {
		t.Errorf("a new book has %v", l)
	}
	for n := range 5 {
		name := "n" + strconv.Itoa(n)
		if _, at, e := b.Rule(name); at != 0 || e != api.ErrUnknown {
			t.Errorf("Rule(%q) ahead of Define: %d, %d", name, at, e)
		}
		define(t, b, name, textOf(n+2))
		for m := range n + 1 {
			want := api.Rule{Kind: api.KindTable, Name: "n" + strconv.Itoa(m), Table: api.Table{States: m + 2, Hood: api.Hex}}
			if r, at, e := b.Rule(want.Name); !same(r, want) || at != 0 || e != api.OK {
				t.Errorf("Rule(%q): %v, %d, %d", want.Name, r, at, e)
			}
		}
	}
}

func TestDefineTellsTheTable(t *testing.T) {
	b := bookOf(t)
	for _, want := range []api.Rule{ruleT(), ruleW()} {
		if r, at, e := b.Rule(want.Name); !same(r, want) || at != 0 || e != api.OK {
			t.Errorf("Rule(%q): %v, %d, %d", want.Name, r, at, e)
		}
	}
}

func TestBooksAreApart(t *testing.T) {
	a, b := rule.New(), rule.New()
	define(t, a, "x", textOf(2))
	if _, _, e := b.Rule("x"); e != api.ErrUnknown || len(b.Names()) != 0 {
		t.Errorf("another book's table: %d, %v", e, b.Names())
	}
	define(t, b, "x", textOf(3))
	if r, _, _ := a.Rule("x"); r.Table.States != 2 {
		t.Errorf("the first book's: %v", r)
	}
}

var (
	longest = strings.Repeat("aB3_-", 7)[:api.MaxName]
	names   = []string{"a", "Z", "var", "t1", "a-", "a_", "a--__9", "B3", "B3-S23", "b3_s23", "B", "C4", longest}
	noNames = []string{"", "1t", "-a", "_a", " a", "a ", "a b", "a/b", "a.b", "a\n", "é", "aé", "a\x00", "B3/S23", "345/2/4", "t:u", longest + "a", strings.Repeat("a", api.MaxText+1)}
)

func TestDefineNames(t *testing.T) {
	b := rule.New()
	for _, name := range names {
		define(t, b, name, textOf(2))
	}
	for _, name := range noNames {
		isRefused(t, "Define("+strconv.Quote(name[:min(len(name), 40)])+")", b.Define(name, textOf(2)), api.Fault{Code: api.ErrName})
	}
	want := slices.Sorted(slices.Values(names))
	if l := b.Names(); !slices.Equal(l, want) {
		t.Errorf("Names: %q, not %q", l, want)
	}
	for c := range 256 {
		name := "x" + string([]byte{byte(c)})
		isLetter := 'a' <= c && c <= 'z' || 'A' <= c && c <= 'Z'
		isNamed := isLetter || '0' <= c && c <= '9' || c == '-' || c == '_'
		if err := rule.New().Define(name, textOf(2)); (err == nil) != isNamed {
			t.Errorf("Define(%q): %v", name, err)
		}
		if err := rule.New().Define(name[1:], textOf(2)); (err == nil) != isLetter {
			t.Errorf("Define(%q): %v", name[1:], err)
		}
	}
}

// full is a book with MaxTables tables.
func full(t *testing.T) *rule.Book {
	b := rule.New()
	for n := range api.MaxTables {
		define(t, b, "n"+strconv.Itoa(n), textOf(n+2))
	}
	return b
}

func TestDefineMaxTables(t *testing.T) {
	b := full(t)
	if l := b.Names(); len(l) != 32 {
		t.Errorf("%d names", len(l))
	}
	isRefused(t, "one more", b.Define("m", textOf(2)), api.Fault{Code: api.ErrMany})
	for n := range api.MaxTables {
		if r, _, e := b.Rule("n" + strconv.Itoa(n)); r.Table.States != n+2 || e != api.OK {
			t.Errorf("table %d: %v, %d", n, r, e)
		}
	}
}

// TestDefineOrder goes through all faults, one at a time and together: the first one of the chapter's list counts.
func TestDefineOrder(t *testing.T) {
	const bad = "n_states:1"
	some := bookOf(t)
	for _, x := range []struct {
		what       string
		book       *rule.Book
		name, text string
		want       api.Fault
	}{
		{"no book", nil, "u", textW, api.Fault{Code: api.ErrNil}},
		{"a zero book", &rule.Book{}, "u", textW, api.Fault{Code: api.ErrNil}},
		{"no book, no name", nil, "1", textW, api.Fault{Code: api.ErrNil}},
		{"no book, no table", nil, "u", bad, api.Fault{Code: api.ErrNil}},
		{"a zero book, no name, no table", &rule.Book{}, "", bad, api.Fault{Code: api.ErrNil}},
		{"no name", some, "1", textW, api.Fault{Code: api.ErrName}},
		{"no name, no table", some, "1", bad, api.Fault{Code: api.ErrName}},
		{"no name, a full book", full(t), "1", textW, api.Fault{Code: api.ErrName}},
		{"no name, a full book, no table", full(t), "1", bad, api.Fault{Code: api.ErrName}},
		{"taken", some, "t", textW, api.Fault{Code: api.ErrTaken}},
		{"taken by the same", some, "t", textT, api.Fault{Code: api.ErrTaken}},
		{"taken, no table", some, "t", bad, api.Fault{Code: api.ErrTaken}},
		{"taken, a full book", full(t), "n0", textW, api.Fault{Code: api.ErrTaken}},
		{"taken, a full book, no table", full(t), "n31", bad, api.Fault{Code: api.ErrTaken}},
		{"a full book", full(t), "u", textW, api.Fault{Code: api.ErrMany}},
		{"a full book, no table", full(t), "u", bad, api.Fault{Code: api.ErrMany}},
		{"no table", some, "u", bad, api.Fault{Code: api.ErrStates, At: 9}},
		{"nothing", some, "u", "", api.Fault{Code: api.ErrLine}},
		{"a fault far on", some, "u", textT + "0,3", api.Fault{Code: api.ErrState, At: len(textT) + 2}},
		{"ends early", some, "u", "n_states:2\n", api.Fault{Code: api.ErrLine, At: 11}},
		{"too long a text", some, "u", strings.Repeat("#", api.MaxText+1), api.Fault{Code: api.ErrText}},
		{"a long text", some, "u", strings.Repeat("#", api.MaxText), api.Fault{Code: api.ErrLine, At: api.MaxText}},
	} {
		isRefused(t, x.what, x.book.Define(x.name, x.text), x.want)
	}
	if l := some.Names(); !slices.Equal(l, []string{"t", "w"}) {
		t.Errorf("behind the errors: %q", l)
	}
}

func TestDefineLongText(t *testing.T) {
	b := rule.New()
	text := textW + "#" + strings.Repeat("x", api.MaxText-len(textW)-1)
	isRefused(t, "one more byte", b.Define("w", text+"x"), api.Fault{Code: api.ErrText})
	define(t, b, "w", text)
	if r, _, e := b.Rule("w"); !same(r, ruleW()) || e != api.OK {
		t.Errorf("%v, %d", r, e)
	}
}

// TestDefineErrorLeaves looks whether the book is as it was behind each error, and takes what it refused once nothing is wrong.
func TestDefineErrorLeaves(t *testing.T) {
	b := bookOf(t)
	for _, x := range [][2]string{{"1u", textW}, {"t", textW}, {"w", textT}, {"u", "x"}, {"u", textW + "x"}, {"u", ""}, {"t", ""}} {
		if err := b.Define(x[0], x[1]); err == nil {
			t.Errorf("Define(%q, %q) is taken", x[0], x[1])
		}
		if l := b.Names(); !slices.Equal(l, []string{"t", "w"}) {
			t.Errorf("behind Define(%q, %q): %q", x[0], x[1], l)
		}
		for _, want := range []api.Rule{ruleT(), ruleW()} {
			if r, _, e := b.Rule(want.Name); !same(r, want) || e != api.OK {
				t.Errorf("behind Define(%q, %q): %v, %d", x[0], x[1], r, e)
			}
		}
		for _, name := range []string{"u", "1u"} {
			if _, _, e := b.Rule(name); e != api.ErrUnknown {
				t.Errorf("Rule(%q) behind Define(%q, %q): %d", name, x[0], x[1], e)
			}
		}
	}
	define(t, b, "u", textW)
	var zero rule.Book
	zero.Define("a", textW)
	if _, _, e := zero.Rule("a"); e != api.ErrNil || len(zero.Names()) != 0 {
		t.Errorf("a zero book has become one: %d", e)
	}
}

func TestDefineErrorIsWrapped(t *testing.T) {
	b := bookOf(t)
	for _, err := range []error{b.Define("t", textT), b.Define("u", "x"), (*rule.Book)(nil).Define("u", "x")} {
		if errors.Unwrap(err) == nil || err.Error() == "" {
			t.Errorf("%v wraps nothing", err)
		}
	}
	first, second := b.Define("u", "n_states:1"), b.Define("u", "n_states:1")
	var one, other *api.Fault
	if !errors.As(first, &one) || !errors.As(second, &other) || one == other {
		t.Errorf("one fault of two calls: %v, %v", first, second)
	}
	if first.Error() == b.Define("u", "x").Error() {
		t.Error("faults at two places have one text")
	}
}

func TestNamesRise(t *testing.T) {
	d := dice(1)
	for range 50 {
		b := rule.New()
		var want []string
		for range d.below(api.MaxTables + 1) {
			name := ""
			for range 1 + d.below(3) {
				name += string("aAbBzZ-_09"[d.below(10)])
			}
			if strings.ContainsAny(name[:1], "-_09") || slices.Contains(want, name) {
				continue
			}
			define(t, b, name, textOf(2))
			want = append(want, name)
			slices.SortFunc(want, func(x, y string) int { return slices.Compare([]byte(x), []byte(y)) })
			if l := b.Names(); !slices.Equal(l, want) {
				t.Fatalf("%q, not %q", l, want)
			}
		}
	}
	if len((*rule.Book)(nil).Names()) != 0 || len((&rule.Book{}).Names()) != 0 {
		t.Error("no book has names")
	}
}

func TestRuleReadsAll(t *testing.T) {
	b := rule.New()
	for _, name := range names {
		define(t, b, name, textOf(9))
	}
	for _, s := range []string{"B3/S23", "b3/s32", "B/S", "B2/S34H", "B13/S01234V", "B0/S012345678", "b0/S8"} {
		l, _, e := life.Parse(s)
		want := api.Rule{Kind: api.KindLife, Gens: api.Gens{Life: l, States: 2}}
		if r, at, f := b.Rule(s); e != api.OK || !same(r, want) || at != 0 || f != api.OK {
			t.Errorf("Rule(%q): %v, %d, %d", s, r, at, f)
		}
	}
	for _, s := range []string{"B2/S345/C4", "345/2/4", "B3/S23/2", "//2", "b3/s32/g256", "B1/S1V/3", "B1/S6H/C0003", "/2/3", "23/3/c2"} {
		g, _, e := gens.Parse(s)
		want := api.Rule{Kind: api.KindGens, Gens: g}
		if r, at, f := b.Rule(s); e != api.OK || !same(r, want) || at != 0 || f != api.OK {
			t.Errorf("Rule(%q): %v, %d, %d", s, r, at, f)
		}
	}
	for _, name := range names {
		want := api.Rule{Kind: api.KindTable, Name: name, Table: api.Table{States: 9, Hood: api.Hex}}
		if r, at, e := b.Rule(name); !same(r, want) || at != 0 || e != api.OK {
			t.Errorf("Rule(%q): %v, %d, %d", name, r, at, e)
		}
	}
}

// TestRuleOrder: of all texts of a few bytes, none is read by two of the three, so that only which of them reads it is to be told.
func TestRuleOrder(t *testing.T) {
	b := rule.New()
	for _, name := range []string{"B", "b", "S", "B3", "b-3", "b3S", "BS", "Bb"} {
		define(t, b, name, textOf(3))
	}
	const bytes = "Bb3S/-2"
	for n := range 7 {
		for row := range everyRow(len(bytes), n) {
			s := ""
			for _, i := range row {
				s += bytes[i : i+1]
			}
			_, _, isLife := life.Parse(s)
			_, _, isGens := gens.Parse(s)
			isName := slices.Contains(b.Names(), s)
			kind := uint8(0)
			switch {
			case isLife == api.OK:
				kind = api.KindLife
			case isGens == api.OK:
				kind = api.KindGens
			case isName:
				kind = api.KindTable
			}
			r, at, e := b.Rule(s)
			if r.Kind != kind || at != 0 || e != [2]api.Errno{api.OK, api.ErrUnknown}[btoi(kind == 0)] {
				t.Fatalf("Rule(%q): %v, %d, %d", s, r, at, e)
			}
			if btoi(isLife == api.OK)+btoi(isGens == api.OK)+btoi(isName) > 1 {
				t.Fatalf("%q is read twice", s)
			}
		}
	}
}

func btoi(is bool) int {
	if is {
		return 1
	}
	return 0
}

func TestRuleUnknown(t *testing.T) {
	b := bookOf(t)
	for _, s := range []string{"", "T", "W", "tt", " t", "t ", "t\n", "t:T3,4", "B3", "B3/S23x", "B33/S23", "B9/S", "B3/S9V", "345/2", "345/2/1", "345/2/257", "B2/S345/C", "1t", "-", "/", "é", textT} {
		if r, at, e := b.Rule(s); !same(r, api.Rule{}) || at != 0 || e != api.ErrUnknown {
			t.Errorf("Rule(%q): %v, %d, %d", s, r, at, e)
		}
	}
}

func TestRuleLongTexts(t *testing.T) {
	b := bookOf(t)
	long := "345/2/" + strings.Repeat("0", api.MaxText-7) + "4"
	want := api.Rule{Kind: api.KindGens, Gens: api.Gens{Life: api.Life{Hood: api.Moore, Born: 1 << 2, Stay: 7 << 3}, States: 4}}
	if r, at, e := b.Rule(long); !same(r, want) || at != 0 || e != api.OK {
		t.Errorf("MaxText bytes: %v, %d, %d", r, at, e)
	}
	for _, s := range []string{strings.Repeat("B", api.MaxText), strings.Repeat("t", api.MaxText), strings.Repeat("3", api.MaxText)} {
		if r, at, e := b.Rule(s); !same(r, api.Rule{}) || at != 0 || e != api.ErrUnknown {
			t.Errorf("MaxText bytes %q: %v, %d, %d", s[:3], r, at, e)
		}
	}
	for _, s := range []string{"345/2/0" + long[6:], strings.Repeat("t", api.MaxText+1), "B3/S23" + strings.Repeat(" ", api.MaxText)} {
		if r, at, e := b.Rule(s); !same(r, api.Rule{}) || at != 0 || e != api.ErrText {
			t.Errorf("more than MaxText bytes %q: %v, %d, %d", s[:6], r, at, e)
		}
	}
}

func TestRuleOfNoBook(t *testing.T) {
	for _, b := range []*rule.Book{nil, {}} {
		for _, s := range []string{"B3/S23", "345/2/4", "t", "", strings.Repeat("B", api.MaxText+1)} {
			if r, at, e := b.Rule(s); !same(r, api.Rule{}) || at != 0 || e != api.ErrNil {
				t.Errorf("Rule(%q): %v, %d, %d", s[:min(len(s), 9)], r, at, e)
			}
		}
	}
}
