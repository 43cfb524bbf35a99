package words_test

import (
	"testing"

	"vivarium/api"
	"vivarium/words"
)

// P2.4

type move struct {
	name string
	call func(r api.Row, in bool) (api.Row, bool, api.Errno)
	to   func(bits []bool, in bool) ([]bool, bool)
}

func moves() []move {
	return []move{
		{"Up", words.Up, func(bits []bool, in bool) ([]bool, bool) {
			all := append([]bool{in}, bits...)
			return all[:len(bits)], all[len(bits)]
		}},
		{"Down", words.Down, func(bits []bool, in bool) ([]bool, bool) {
			all := append(append([]bool(nil), bits...), in)
			return all[1:], all[0]
		}},
	}
}

func TestMoves(t *testing.T) {
	for _, m := range moves() {
		eachSample(farLengths(), func(bits []bool) {
			for _, in := range []bool{false, true} {
				want, wantOut := m.to(bits, in)
				r, out, e := m.call(rowOf(bits), in)
				is(t, m.name, want)(r, e)
				if out != wantOut {
					t.Errorf("%s of %d bits, in %v: %v came out", m.name, len(bits), in, out)
				}
			}
		})
	}
}

func TestMovesOfNoBits(t *testing.T) {
	for _, m := range moves() {
		for _, in := range []bool{false, true} {
			r, out, e := m.call(api.Row{}, in)
			is(t, m.name, nil)(r, e)
			if out != in {
				t.Errorf("%s of no bits, in %v: %v came out", m.name, in, out)
			}
		}
	}
}

func TestMovesRefuse(t *testing.T) {
	for _, m := range moves() {
		for _, bad := range append(badRows(), api.Row{N: 3, Words: []uint64{15}}, api.Row{N: 1, Words: []uint64{1, 1}}) {
			for _, in := range []bool{false, true} {
				r, out, e := m.call(bad, in)
				refused(t, m.name, api.ErrRow)(r, e)
				if out {
					t.Errorf("%s: a bit came out beside the error", m.name)
				}
			}
		}
	}
}

func TestTurned(t *testing.T) {
	eachSample(farLengths(), func(bits []bool) {
		want := made(len(bits), func(i int) bool { return bits[len(bits)-1-i] })
		is(t, "Turned", want)(words.Turned(rowOf(bits)))
	})
	for _, r := range badRows() {
		refused(t, "Turned", api.ErrRow)(words.Turned(r))
	}
}
