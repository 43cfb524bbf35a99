package topo_test

import (
	"strings"
	"testing"

	"vivarium/api"
	"vivarium/topo"
)

// smallOnes goes through all topologies of sides up to so many that may be.
func smallOnes(most int) []api.Topo {
	var all []api.Topo
	for _, kind := range kinds {
		for w := range most + 1 {
			for h := range most + 1 {
				for turn := range uint8(3) {
					for shift := -most; shift <= most; shift++ {
						a := api.Topo{Kind: kind, W: w, H: h, Turn: turn, Shift: shift}
						if modelCheck(a) == api.OK {
							all = append(all, a)
						}
					}
				}
			}
		}
	}
	return all
}

func TestWhatIsPrintedIsReadAsTheTopology(t *testing.T) {
	look := func(a api.Topo) {
		s, e := topo.Print(a)
		if e != api.OK {
			t.Errorf("Print(%v): %d", a, e)
		}
		reads(t, s, a)
		reads(t, strings.ToLower(s), a)
	}
	for _, a := range smallOnes(11) {
		look(a)
	}
	for a := range mayBe {
		look(a)
	}
}

func TestWhatIsReadMayBe(t *testing.T) {
	read := 0
	for _, letter := range strings.Split("PTKCS", "") {
		everyText(letter, strings.Split("0 2 03 * + - , 5", " "), 5, func(s string) {
			a, _, e := topo.Parse(s)
			if e != api.OK {
				return
			}
			read++
			checks(t, a, api.OK)
			again, _ := topo.Print(a)
			reads(t, again, a)
		})
	}
	if read < 1000 {
		t.Errorf("%d texts were read", read)
	}
}

func TestCanonOfCanon(t *testing.T) {
	for _, a := range smallOnes(7) {
		b, _ := topo.Canon(a)
		checks(t, b, api.OK)
		if c, e := topo.Canon(b); c != b || e != api.OK {
			t.Errorf("Canon(%v) = %v, and of it %v, %d", a, b, c, e)
		}
	}
}

func TestAcrossOfAcross(t *testing.T) {
	for _, a := range smallOnes(5) {
		b, _ := topo.Across(a)
		checks(t, b, api.OK)
		if c, e := topo.Across(b); c != a || e != api.OK {
			t.Errorf("Across(%v) = %v, and of it %v, %d", a, b, c, e)
		}
		for x := -4; x <= 4; x++ {
			for y := -4; y <= 4; y++ {
				one, e := topo.Has(a, api.Point{X: x, Y: y})
				two, f := topo.Has(b, api.Point{X: y, Y: x})
				if one != two || e != f {
					t.Fatalf("%v at %d, %d: %v; across: %v", a, x, y, one, two)
				}
			}
		}
	}
}

func TestHowManyCellsThereAre(t *testing.T) {
	for _, a := range smallOnes(6) {
		if a.W == 0 || a.H == 0 {
			continue
		}
		cells := 0
		for x := -9; x <= 9; x++ {
			for y := -9; y <= 9; y++ {
				if is, _ := topo.Has(a, api.Point{X: x, Y: y}); is {
					cells++
				}
			}
		}
		if cells != a.W*a.H {
			t.Errorf("%v has %d cells", a, cells)
		}
	}
}

func TestFaultsOfFormStayWhateverFollows(t *testing.T) {
	tails := []string{"0", "3", "*", "+", "-", ",", "x", " ", "\n", "\x00", "\xff", ",3", "*+1,4", "99999999999999999999", "T3", strings.Repeat(",", 1000)}
	faults := map[api.Errno]int{}
	look := func(s string) {
		at, e := modelForm(s)
		if e == api.OK || at == len(s) {
			return
		}
		faults[e]++
		refuses(t, s, e, at)
		refuses(t, s[:at+1], e, at)
		for _, tail := range tails {
			refuses(t, s[:at+1]+tail, e, at)
		}
	}
	everyText("", strings.Split("TKSx03*+-,", ""), 4, look)
	for _, one := range everyPart() {
		look("T" + one + ",x")
		look("c3," + one + "x")
		look("S" + one)
	}
	for _, e := range []api.Errno{api.ErrKind, api.ErrSide, api.ErrShift, api.ErrMore} {
		if faults[e] < 20 {
			t.Errorf("%d was looked at %d times", e, faults[e])
		}
	}
	long := strings.Repeat("x", api.MaxText-4)
	refuses(t, "T3+x"+long, api.ErrShift, 3)
	refuses(t, "T3+x"+long+"x", api.ErrText, 0)
}
