package words_test

import (
	"slices"
	"testing"

	"vivarium/api"
	"vivarium/words"
)

// roomy is the row with spare room behind its words that a call must not touch.
func roomy(bits []bool) api.Row {
	r := rowOf(bits)
	n := len(r.Words)
	r.Words = append(r.Words, 0xdead, 0xbeef)[:n]
	return r
}

func whole(r api.Row) []uint64 { return r.Words[:cap(r.Words)] }

// apart looks whether a call left its arguments as they were, and answered memory of its own, each row by itself.
func apart(t *testing.T, what string, args []api.Row, call func() []api.Row) {
	t.Helper()
	var before, told [][]uint64
	for _, r := range args {
		before = append(before, slices.Clone(whole(r)))
	}
	answers := call()
	for _, r := range answers {
		told = append(told, slices.Clone(r.Words))
	}
	for i, r := range args {
		if !slices.Equal(whole(r), before[i]) {
			t.Errorf("%s changed argument %d", what, i)
		}
		for j := range whole(r) {
			whole(r)[j] += 0x5555
		}
	}
	for i, r := range answers {
		if !slices.Equal(r.Words, told[i]) {
			t.Errorf("%s: answer %d shares memory", what, i)
		}
		for j := range whole(r) {
			whole(r)[j] += 0x3333
		}
	}
	for i, r := range args {
		for j, w := range whole(r) {
			if w != before[i][j]+0x5555 {
				t.Errorf("%s: argument %d shares memory with an answer", what, i)
			}
		}
	}
}

func one(r api.Row, _ api.Errno) []api.Row { return []api.Row{r} }

func moved(r api.Row, _ bool, _ api.Errno) []api.Row { return []api.Row{r} }

func TestAnswersAreNewMemory(t *testing.T) {
	for _, n := range lengths() {
		for _, bits := range samples(n) {
			r, s := roomy(bits), roomy(mixed(n, 9))
			apart(t, "Not", []api.Row{r}, func() []api.Row { return one(words.Not(r)) })
			r = roomy(bits)
			apart(t, "Turned", []api.Row{r}, func() []api.Row { return one(words.Turned(r)) })
			for _, m := range moves() {
				r = roomy(bits)
				apart(t, m.name, []api.Row{r}, func() []api.Row { return moved(m.call(r, true)) })
			}
			for _, j := range joins() {
				r, s = roomy(bits), roomy(mixed(n, 9))
				apart(t, j.name, []api.Row{r, s}, func() []api.Row { return one(j.call(r, s)) })
				r = roomy(bits)
				apart(t, j.name+" of one row twice", []api.Row{r}, func() []api.Row { return one(j.call(r, r)) })
			}
		}
	}
}

func TestSetIsNewMemory(t *testing.T) {
	for _, bits := range samples(130) {
		for _, i := range []int{0, 63, 64, 129} {
			for _, on := range []bool{false, true} {
				r := roomy(bits)
				apart(t, "Set", []api.Row{r}, func() []api.Row { return one(words.Set(r, i, on)) })
			}
		}
	}
}

func TestCountsAreNewMemory(t *testing.T) {
	for k := range 16 {
		rows := make([]api.Row, k)
		for j := range rows {
			rows[j] = roomy(mixed(130, uint64(j)))
		}
		apart(t, "Count", rows, func() []api.Row {
			c, _ := words.Count(rows...)
			return c[:]
		})
	}
	for n := range 16 {
		c := [4]api.Row{roomy(mixed(130, 1)), roomy(mixed(130, 2)), roomy(mixed(130, 3)), roomy(mixed(130, 4))}
		apart(t, "Is", c[:], func() []api.Row { return one(words.Is(c, n)) })
	}
}

func TestCountLeavesTheListAsItWas(t *testing.T) {
	rows := []api.Row{row("011"), row("110"), row("111"), row("101")}[:3]
	words.Count(rows...)
	for i, r := range rows[:4] {
		if want := []string{"011", "110", "111", "101"}[i]; !same(r, row(want)) {
			t.Errorf("row %d of the list was changed", i)
		}
	}
}

func TestOfLeavesTheListAsItWas(t *testing.T) {
	bits := mixed(130, 5)
	was := slices.Clone(bits)
	r, _ := words.Of(bits)
	if !slices.Equal(bits, was) {
		t.Error("Of changed its list")
	}
	clear(bits)
	if !same(r, rowOf(was)) {
		t.Error("Of shares memory with its list")
	}
}

func TestAsksLeaveTheRowAsItWas(t *testing.T) {
	for _, bits := range samples(130) {
		r := roomy(bits)
		was := slices.Clone(whole(r))
		words.Valid(r)
		words.Get(r, 64)
		words.Ones(r)
		for range words.Bits(r) {
			continue
		}
		if !slices.Equal(whole(r), was) {
			t.Errorf("changed: %v, %v", whole(r), was)
		}
	}
}
