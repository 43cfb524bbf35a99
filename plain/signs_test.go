package plain_test

import (
	"math"
	"testing"

	"vivarium/plain"
)

// P23.1: signs.

func TestSignOfEachState(t *testing.T) {
	seen := map[rune]bool{}
	for s := range 256 {
		sign := plain.Sign(uint8(s))
		if string(sign) != modelSign(uint8(s)) {
			t.Errorf("Sign(%d) = %d", s, sign)
		}
		if seen[sign] {
			t.Errorf("Sign(%d) is another state's too", s)
		}
		seen[sign] = true
	}
}

// of looks at what Of answers of a rune, be it a sign or not.
func of(t *testing.T, list map[rune]uint8, sign rune) {
	t.Helper()
	want, wantIs := list[sign]
	if s, is := plain.Of(sign); s != want || is != wantIs {
		t.Errorf("Of(%d) = %d, %v, not %d, %v", sign, s, is, want, wantIs)
	}
}

func TestOfEachSign(t *testing.T) {
	list := signs()
	if len(list) != 261 {
		t.Fatalf("%d signs", len(list))
	}
	for sign, s := range list {
		if got, is := plain.Of(sign); got != s || !is {
			t.Errorf("Of(%d) = %d, %v, not %d", sign, got, is, s)
		}
	}
}

// TestOfEachRune: those of all texts, and numbers that are no text's.
func TestOfEachRune(t *testing.T) {
	list := signs()
	for sign := rune(-1 << 21); sign < 1<<21; sign++ {
		of(t, list, sign)
	}
	for d := range rune(1 << 16) {
		of(t, list, math.MinInt32+d)
		of(t, list, math.MaxInt32-d)
	}
}

// TestOfRunesWhoseLastBitsAreASigns: all of a rune's bits count.
func TestOfRunesWhoseLastBitsAreASigns(t *testing.T) {
	list := signs()
	for sign := range list {
		for bit := range 32 {
			other := sign ^ 1<<bit
			of(t, list, other)
			of(t, list, -other)
			of(t, list, ^other)
		}
		for k := range rune(1 << 12) {
			of(t, list, sign+k<<20)
			of(t, list, sign+k<<8)
		}
	}
}

// TestOfSign is of P23.5: each sign is read as its state.
func TestOfSign(t *testing.T) {
	for s := range 256 {
		if got, is := plain.Of(plain.Sign(uint8(s))); got != uint8(s) || !is {
			t.Errorf("Of(Sign(%d)) = %d, %v", s, got, is)
		}
	}
}
