package strip_test

import (
	"math/bits"
	"reflect"
	"slices"
	"testing"

	"vivarium/api"
	"vivarium/rule"
	"vivarium/strip"
	"vivarium/window"
)

// The model: a node is the states of its rows, one behind the other, as a text; nodes that are told of stand in a list, those that are kept in a map. The middle of a node is worked out row by row, generation by generation, without window and hood. What a rule of births and stays says is counted anew; what a table says is what rule.Next says of it.

// sheet is a sea's model.
type sheet struct {
	rule    api.Rule
	strip   api.Topo
	most    int
	kept    map[string]bool
	told    []string
	numbers map[string]int
}

func newSheet(r api.Rule, t api.Topo, most int) *sheet {
	return &sheet{rule: r, strip: t, most: most, kept: map[string]bool{}, numbers: map[string]int{}}
}

// level is that of a node.
func (s *sheet) level(node string) int { return bits.Len(uint(len(node)/s.strip.W)) - 1 }

// parts goes through a node and its parts that are not kept.
func (s *sheet) parts(node string, into map[string]bool) {
	if s.kept[node] || into[node] {
		return
	}
	into[node] = true
	if half := len(node) / 2; s.level(node) > 0 {
		s.parts(node[:half], into)
		s.parts(node[half:], into)
	}
}

// more is how many nodes are kept more, if this one is told of.
func (s *sheet) more(node string) int {
	into := map[string]bool{}
	s.parts(node, into)
	return len(into)
}

// tell is the node's number from now on.
func (s *sheet) tell(node string) int {
	into := map[string]bool{}
	s.parts(node, into)
	for part := range into {
		s.kept[part] = true
	}
	number, was := s.numbers[node]
	if !was {
		number = len(s.told)
		s.numbers[node] = number
		s.told = append(s.told, node)
	}
	return number
}

// answer is the number, or ErrBudget where the sea would keep more than it may.
func (s *sheet) answer(node string) (int, api.Errno) {
	if len(s.kept)+s.more(node) > s.most {
		return 0, api.ErrBudget
	}
	return s.tell(node), api.OK
}

func (s *sheet) has(id int) bool { return id >= 0 && id <= len(s.told)-1 }

func (s *sheet) row(cells []uint8) (int, api.Errno) {
	if len(cells) != s.strip.W {
		return 0, api.ErrBand
	}
	for _, state := range cells {
		if int(state) >= statesOf(s.rule) {
			return 0, api.ErrState
		}
	}
	return s.answer(string(cells))
}

func (s *sheet) pair(a, b int) (int, api.Errno) {
	if !s.has(a) || !s.has(b) {
		return 0, api.ErrNode
	}
	if len(s.told[a]) != len(s.told[b]) {
		return 0, api.ErrUnlike
	}
	return s.answer(s.told[a] + s.told[b])
}

// rows are a node's.
func (s *sheet) rows(node string) [][]uint8 {
	var rows [][]uint8
	for len(node) > 0 {
		rows = append(rows, []uint8(node[:s.strip.W]))
		node = node[s.strip.W:]
	}
	return rows
}

// middle is the node of the middle half of the rows, 2 to the power of j generations later.
func (s *sheet) middle(node string, j int) string {
	rows := s.rows(node)
	quarter, gone := len(rows)/4, 1<<j
	for range gone {
		rows = modelNext(s.rule, s.strip, rows)
	}
	return string(slices.Concat(rows[quarter-gone : 3*quarter-gone]...))
}

// need is how many nodes more than it keeps are enough, as P21.5 says.
func need(level, j int) int { return (level + 2) << level * (1<<j + 1) }

// modelNext are all rows but the outermost two one generation later.
func modelNext(r api.Rule, t api.Topo, rows [][]uint8) [][]uint8 {
	var next [][]uint8
	for y := 1; y < len(rows)-1; y++ {
		row := make([]uint8, t.W)
		for x := range row {
			var around []uint8
			for _, d := range offsets[hoodOf(r)] {
				around = append(around, stateAt(t, rows[y+d.Y], x+d.X))
			}
			row[x] = modelState(r, rows[y][x], around)
		}
		next = append(next, row)
	}
	return next
}

// stateAt is what a place of a row, or one left or right of it, is.
func stateAt(t api.Topo, row []uint8, x int) uint8 {
	if t.Kind == api.Torus {
		x = (x%t.W + t.W) % t.W
	}
	if x < 0 || x >= t.W {
		return 0 // on a Plane nothing lives beyond the ends
	}
	return row[x]
}

// statesOf and hoodOf are a rule's, by its fields.
func statesOf(r api.Rule) int {
	if r.Kind == api.KindTable {
		return r.Table.States
	}
	return r.Gens.States
}

func hoodOf(r api.Rule) uint8 {
	if r.Kind == api.KindTable {
		return r.Table.Hood
	}
	return r.Gens.Life.Hood
}

// modelState is what a rule says that may be.
func modelState(r api.Rule, centre uint8, around []uint8) uint8 {
	if r.Kind == api.KindTable {
		next, e := rule.Next(r, centre, around)
		if e != api.OK {
			panic(e)
		}
		return next
	}
	ones := 0
	for _, state := range around {
		if state == 1 {
			ones++
		}
	}
	switch {
	case centre == 0:
		return uint8(r.Gens.Life.Born >> ones & 1)
	case centre == 1 && r.Gens.Life.Stay>>ones&1 == 1:
		return 1
	}
	return uint8((int(centre) + 1) % r.Gens.States)
}

// quiet tells whether a rule leaves empty space empty.
func quiet(r api.Rule) bool {
	return modelState(r, 0, make([]uint8, len(offsets[hoodOf(r)]))) == 0
}

// both is a sea beside its model: each call goes to both, and they must answer the same. Nodes is looked at behind each call.
type both struct {
	test  *testing.T
	sea   *strip.Sea
	sheet *sheet
}

func newBoth(test *testing.T, r api.Rule, t api.Topo, most int) *both {
	test.Helper()
	b := &both{test, mustNew(test, r, t, most), newSheet(r, t, most)}
	b.count()
	return b
}

// mustNew is a sea that there must be.
func mustNew(test *testing.T, r api.Rule, t api.Topo, nodes int) *strip.Sea {
	test.Helper()
	was := copied(r)
	s, e := strip.New(r, t, nodes)
	if e != api.OK || s == nil {
		test.Fatalf("New(%v, %v, %d): %d", brief(r), t, nodes, e)
	}
	if !reflect.DeepEqual(r, was) {
		test.Fatalf("New(%v, %v, %d): the rule that was handed in is another", brief(was), t, nodes)
	}
	return s
}

// wrong tells what was answered and what must be.
func (b *both) wrong(call string, args []any, got any, e api.Errno, want any, code api.Errno) {
	b.test.Helper()
	b.test.Fatalf("%v on %v, %d nodes: %s(%v): %v, %d, not %v, %d", brief(b.sheet.rule), b.sheet.strip, b.sheet.most, call, args, got, e, want, code)
}

// count looks whether the sea keeps as many nodes as it must.
func (b *both) count() {
	b.test.Helper()
	if n := b.sea.Nodes(); n != len(b.sheet.kept) {
		b.test.Fatalf("%v on %v, %d nodes: Nodes: %d, not %d", brief(b.sheet.rule), b.sheet.strip, b.sheet.most, n, len(b.sheet.kept))
	}
}

func (b *both) row(cells []uint8) (int, api.Errno) {
	b.test.Helper()
	was := slices.Clone(cells)
	id, e := b.sea.Row(cells)
	if want, code := b.sheet.row(was); id != want || e != code {
		b.wrong("Row", []any{short(was)}, id, e, want, code)
	}
	if !slices.Equal(cells, was) {
		b.test.Fatalf("Row(%v): what was handed in is another", short(was))
	}
	b.count()
	return id, e
}

func (b *both) pair(up, low int) (int, api.Errno) {
	b.test.Helper()
	id, e := b.sea.Pair(up, low)
	if want, code := b.sheet.pair(up, low); id != want || e != code {
		b.wrong("Pair", []any{up, low}, id, e, want, code)
	}
	b.count()
	return id, e
}

// middle holds Middle against the model; where P21.5 leaves it open, it may be ErrBudget.
func (b *both) middle(id, j int) (int, api.Errno) {
	b.test.Helper()
	got, e := b.sea.Middle(id, j)
	s := b.sheet
	switch {
	case !s.has(id):
		if got != 0 || e != api.ErrNode {
			b.wrong("Middle", []any{id, j}, got, e, 0, api.ErrNode)
		}
	case j < 0 || j > s.level(s.told[id])-2:
		if got != 0 || e != api.ErrArg {
			b.wrong("Middle", []any{id, j}, got, e, 0, api.ErrArg)
		}
	case e == api.ErrBudget && got == 0 && s.most-len(s.kept) < need(s.level(s.told[id]), j):
	default:
		if want, code := s.answer(s.middle(s.told[id], j)); got != want || e != code {
			b.wrong("Middle", []any{id, j}, got, e, want, code)
		}
	}
	b.count()
	return got, e
}

// look goes through all numbers, and the two beyond their ends.
func (b *both) look() {
	b.test.Helper()
	s := b.sheet
	for id := -1; id <= len(s.told); id++ {
		level, e := b.sea.Level(id)
		rows, f := b.sea.Rows(id)
		if !s.has(id) {
			if level != 0 || e != api.ErrNode || rows != nil || f != api.ErrNode {
				b.wrong("Level, Rows", []any{id}, []any{level, rows}, e, "none", api.ErrNode)
			}
			continue
		}
		if want := s.level(s.told[id]); level != want || e != api.OK {
			b.wrong("Level", []any{id}, level, e, want, api.OK)
		}
		if want := s.rows(s.told[id]); f != api.OK || !slices.EqualFunc(rows, want, slices.Equal) {
			b.wrong("Rows", []any{id}, short(rows), f, short(want), api.OK)
		}
	}
	b.count()
}

// fill tells of so many rows drawn at random.
func (b *both) fill(d *dice, count int) {
	b.test.Helper()
	for range count {
		b.row(d.cells(b.sheet.strip.W, statesOf(b.sheet.rule)))
	}
}

// node is a node of these rows, as many as a power of two.
func (b *both) node(rows [][]uint8) int {
	b.test.Helper()
	if len(rows) == 1 {
		id, e := b.row(rows[0])
		if e != api.OK {
			b.test.Fatalf("Row: %d", e)
		}
		return id
	}
	half := len(rows) / 2
	id, e := b.pair(b.node(rows[:half]), b.node(rows[half:]))
	if e != api.OK {
		b.test.Fatalf("Pair: %d", e)
	}
	return id
}

// partsOf is how many nodes a sea keeps that tells of a node of these rows.
func partsOf(r api.Rule, t api.Topo, rows [][]uint8) int {
	return newSheet(r, t, 0).more(string(slices.Concat(rows...)))
}

// rowsOf are so many rows drawn at random.
func (d *dice) rowsOf(t api.Topo, count, states int) [][]uint8 {
	return d.band(t.W, 0, count, states).Rows
}

// enough is how many nodes more than it keeps are enough for Run, as P21.6 says; false, where it says nothing.
func enough(b api.Band, n int) (int, bool) {
	first := slices.IndexFunc(b.Rows, lives)
	if first < 0 {
		return 0, true
	}
	count := len(b.Rows) - first
	for !lives(b.Rows[first+count-1]) {
		count--
	}
	if n > 1<<20 || b.W*(count+2*n) > 1<<20 {
		return 0, false
	}
	k := 0
	for 1<<k < 4*(count+2*n+4) {
		k++
	}
	return (k + 2) << k * (n + 1), true
}

func lives(row []uint8) bool {
	return slices.ContainsFunc(row, func(state uint8) bool { return state != 0 })
}

// run holds Run against window.Run, where that answers; it may be ErrBudget, where P21.6 does not say that there are nodes enough. Nothing is told of, and the band that was handed in is as it was.
func (b *both) run(band api.Band, n int) (api.Band, api.Errno) {
	b.test.Helper()
	s := b.sheet
	was := ownBand(band)
	got, e := b.sea.Run(band, n)
	want, code := window.Run(s.rule, s.strip, was, n)
	spare, is := enough(was, n)
	switch {
	case e == api.ErrBudget && isZero(got) && (!is || spare > s.most-len(s.kept)):
	case code == api.ErrBudget: // window's budget is another
	case e != code || !same(got, want):
		b.wrong("Run", []any{shortBand(was), n}, shortBand(got), e, shortBand(want), code)
	}
	if !same(band, was) {
		b.test.Fatalf("Run(%v, %d): what was handed in is another", shortBand(was), n)
	}
	b.count()
	return got, e
}
