package shape_test

import (
	"slices"
	"testing"

	"vivarium/api"
	"vivarium/shape"
)

// P24.9: what is handed in is only read, its spare room neither; what is answered is new memory.

// answer is all that a call answers.
type answer struct {
	cells []api.Cell
	parts []int
	rect  api.Rect
	by    api.Iso
	is    bool
	e     api.Errno
}

// asks are all calls of two shapes (of Make: of their cells).
func asks(a, b api.Shape, m api.Iso) []answer {
	var list []answer
	s, e := shape.Make(a.Cells)
	list = append(list, answer{cells: s.Cells, e: e}, answer{e: shape.Check(a)})
	r, is, e := shape.Box(a)
	list = append(list, answer{rect: r, is: is, e: e})
	s, e = shape.Move(a, m)
	list = append(list, answer{cells: s.Cells, e: e})
	for how := range uint8(6) {
		s, e = shape.Mix(a, b, how)
		list = append(list, answer{cells: s.Cells, e: e})
	}
	parts, e := shape.Parts(a)
	list = append(list, answer{parts: parts, e: e})
	s, by, e := shape.Least(a)
	list = append(list, answer{cells: s.Cells, by: by, e: e})
	is, e = shape.Alike(a, b)
	return append(list, answer{is: is, e: e})
}

func (a answer) same(b answer) bool {
	return slices.Equal(a.cells, b.cells) && slices.Equal(a.parts, b.parts) && a.rect == b.rect && a.by == b.by && a.is == b.is && a.e == b.e
}

// writeOver changes all of an answer's lists, their spare room too.
func (a answer) writeOver() {
	cells, parts := a.cells[:cap(a.cells)], a.parts[:cap(a.parts)]
	for i := range cells {
		cells[i] = cell(-77, -78, 79)
	}
	for i := range parts {
		parts[i] = -80
	}
}

// pair are two shapes, some of which may not be, with junk in their spare room.
func (d *dice) pair() (a, b api.Shape, whole [2][]api.Cell) {
	list := [2]api.Shape{}
	junk := []api.Cell{cell(0, 0, 77), cell(99, 99, 78), cell(-1, -1, 0)}
	for i := range list {
		s := d.world().shape()
		switch n := len(s.Cells); {
		case n > 0 && d.below(8) == 0:
			s.Cells[d.below(n)] = cell(one(d, []int{0, far + 1}), 0, uint8(d.below(2)))
		case n > 1 && d.below(4) == 0:
			s.Cells = shuffled(d, s.Cells)
		}
		whole[i] = append(s.Cells, junk...)
		list[i] = api.Shape{Cells: whole[i][:len(s.Cells)]}
	}
	return list[0], list[1], whole
}

func TestWhatIsHandedInStays(t *testing.T) {
	d := dice(71)
	for range 3000 {
		a, b, whole := d.pair()
		before := [2][]api.Cell{slices.Clone(whole[0]), slices.Clone(whole[1])}
		m := mapOf(d.below(8), d.below(9), one(&d, []int{0, 5, far}))
		asks(a, b, m)
		asks(a, a, m)
		for i := range whole {
			if !slices.Equal(whole[i], before[i]) {
				t.Fatalf("%v came to be %v", before[i], whole[i])
			}
		}
	}
}

// TestWhatIsAnsweredIsNew: what is done to one answer is seen neither in what was handed in nor in other answers.
func TestWhatIsAnsweredIsNew(t *testing.T) {
	d := dice(72)
	for range 3000 {
		a, b, whole := d.pair()
		before := [2][]api.Cell{slices.Clone(whole[0]), slices.Clone(whole[1])}
		m := mapOf(d.below(8), d.below(9), 0)
		wants := asks(a, b, m)
		for i := range wants {
			wants[i].cells, wants[i].parts = slices.Clone(wants[i].cells), slices.Clone(wants[i].parts)
		}
		first, second := asks(a, b, m), asks(a, b, m)
		for i := range first {
			first[i].writeOver()
			for j := i + 1; j < len(first); j++ {
				if !first[j].same(wants[j]) {
					t.Fatalf("%v, %v: answer %d is seen in answer %d", a, b, i, j)
				}
			}
			if !second[i].same(wants[i]) {
				t.Fatalf("%v, %v: answer %d is seen in another one", a, b, i)
			}
		}
		for i := range whole {
			if !slices.Equal(whole[i], before[i]) {
				t.Fatalf("%v came to be %v", before[i], whole[i])
			}
		}
		for i, again := range asks(a, b, m) {
			if !again.same(wants[i]) {
				t.Fatalf("%v, %v: call %d answers otherwise", a, b, i)
			}
		}
	}
}

// TestWhatIsHandedInMayBeWrittenOver: no answer changes with it, and nothing of it is kept.
func TestWhatIsHandedInMayBeWrittenOver(t *testing.T) {
	d := dice(73)
	for range 3000 {
		a, b, whole := d.pair()
		m := mapOf(d.below(8), 0, d.below(9))
		answers, wants := asks(a, b, m), asks(a, b, m)
		for i := range wants {
			wants[i].cells, wants[i].parts = slices.Clone(wants[i].cells), slices.Clone(wants[i].parts)
		}
		kept := [2]api.Shape{of(slices.Clone(a.Cells)...), of(slices.Clone(b.Cells)...)}
		for _, list := range whole {
			for i := range list {
				list[i] = cell(i, -i, 1)
			}
		}
		for i := range answers {
			if !answers[i].same(wants[i]) {
				t.Fatalf("%v: answer %d changed with what was handed in", kept, i)
			}
		}
		for i, again := range asks(kept[0], kept[1], m) {
			if !again.same(wants[i]) {
				t.Fatalf("%v: call %d answers otherwise", kept, i)
			}
		}
	}
}

// TestTheSameByTheSame: a shape by the map that does nothing, by itself and by none is new memory too.
func TestTheSameByTheSame(t *testing.T) {
	g := glider()
	least, _ := mustLeast(t, g)
	for _, s := range []api.Shape{
		mustMove(t, g, mapOf(0, 0, 0)), mustMake(t, g.Cells...), mustMix(t, g, of(), api.MixOver), mustMix(t, of(), g, api.MixUnder),
		mustMix(t, g, g, api.MixAnd), mustMix(t, g, g, api.MixOver), mustMix(t, g, of(), api.MixXor),
	} {
		answer{cells: s.Cells}.writeOver()
	}
	again, _ := mustLeast(t, least)
	answer{cells: again.Cells}.writeOver()
	if !alike(g, glider()) {
		t.Error(g)
	}
	if third, _ := mustLeast(t, g); !alike(third, least) {
		t.Error(least, third)
	}
}
