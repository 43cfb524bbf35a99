package tiles_test

import (
	"testing"

	"vivarium/api"
	"vivarium/field"
	"vivarium/tiles"
)

// The rows of the chapter's section Examples, in their order.

// worlds are the chapter's torus, and the plane piece of its sides.
var (
	torus48 = api.Topo{Kind: api.Torus, W: 48, H: 48}
	plane48 = api.Topo{Kind: api.Plane, W: 48, H: 48}
)

// blinker is the chapter's field.
func blinker(t *testing.T) *field.Field {
	t.Helper()
	f := blank(t, 48, 48)
	for x := 20; x <= 22; x++ {
		if e := f.Set(x, 20, 1); e != api.OK {
			t.Fatal(e)
		}
	}
	return f
}

func TestExampleOfWorkers(t *testing.T) {
	for _, workers := range []int{0, 17} {
		if b, e := tiles.New(conway(), torus48, blinker(t), workers); b != nil || e != api.ErrWorkers {
			t.Errorf("%d workers: %d", workers, e)
		}
	}
}

func TestExamplesOfStirred(t *testing.T) {
	for workers := 1; workers <= 16; workers++ {
		b := mustNew(t, conway(), torus48, blinker(t), workers)
		if b.Tiles() != 9 || b.Stirred() != 0 {
			t.Errorf("%d tiles, %d stirred", b.Tiles(), b.Stirred())
		}
		for _, want := range []int{9, 1} {
			if e := b.Step(1); e != api.OK || b.Stirred() != want {
				t.Errorf("Step(1): %d, %d tiles stirred, not %d", e, b.Stirred(), want)
			}
		}
		if e := b.Set(15, 15, 1); e != api.OK {
			t.Errorf("Set: %d", e)
		}
		if e := b.Step(1); e != api.OK || b.Stirred() != 4 {
			t.Errorf("Step(1): %d, %d tiles stirred, not 4", e, b.Stirred())
		}
	}
}

func TestExamplesOfTheCorner(t *testing.T) {
	for a, want := range map[api.Topo]int{torus48: 4, plane48: 1} {
		b := mustNew(t, conway(), a, blank(t, 48, 48), 3)
		mustStep(t, b, 1)
		mustSet(t, b, 0, 0, 1)
		mustStep(t, b, 1)
		if b.Stirred() != want {
			t.Errorf("%v: %d tiles stirred, not %d", a, b.Stirred(), want)
		}
	}
}

func TestExamplesOfRefusals(t *testing.T) {
	b := mustNew(t, conway(), torus48, blinker(t), 1)
	if e := b.Set(48, 0, 1); e != api.ErrPlace {
		t.Errorf("Set(48, 0, 1): %d", e)
	}
	if e := b.Set(0, 0, 2); e != api.ErrState {
		t.Errorf("Set(0, 0, 2): %d", e)
	}
	if e := b.Step(-1); e != api.ErrArg {
		t.Errorf("Step(-1): %d", e)
	}
	if e := b.Step(1 << 26); e != api.ErrBudget {
		t.Errorf("Step(2^26): %d", e)
	}
}
