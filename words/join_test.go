package words_test

import (
	"testing"

	"vivarium/api"
	"vivarium/words"
)

// P2.3

type join struct {
	name string
	call func(a, b api.Row) (api.Row, api.Errno)
	bit  func(a, b bool) bool
}

func joins() []join {
	return []join{
		{"And", words.And, func(a, b bool) bool { return a && b }},
		{"Or", words.Or, func(a, b bool) bool { return a || b }},
		{"Xor", words.Xor, func(a, b bool) bool { return a != b }},
	}
}

func TestNot(t *testing.T) {
	eachSample(farLengths(), func(bits []bool) {
		is(t, "Not", made(len(bits), func(i int) bool { return !bits[i] }))(words.Not(rowOf(bits)))
	})
	for _, r := range badRows() {
		refused(t, "Not", api.ErrRow)(words.Not(r))
	}
}

func TestJoins(t *testing.T) {
	for _, j := range joins() {
		eachPair(func(a, b []bool) {
			is(t, j.name, made(len(a), func(i int) bool { return j.bit(a[i], b[i]) }))(j.call(rowOf(a), rowOf(b)))
		})
		a, b := mixed(longest, 1), mixed(longest, 2)
		is(t, j.name, made(longest, func(i int) bool { return j.bit(a[i], b[i]) }))(j.call(rowOf(a), rowOf(b)))
	}
}

func TestJoinsRefuseRowsThatMayNotBe(t *testing.T) {
	for _, j := range joins() {
		for _, bad := range badRows() {
			for _, n := range []int{0, 3, 64, 65, longest} {
				good := rowOf(make([]bool, n))
				refused(t, j.name+" bad, good", api.ErrRow)(j.call(bad, good))
				refused(t, j.name+" good, bad", api.ErrRow)(j.call(good, bad))
			}
			refused(t, j.name+" bad, bad", api.ErrRow)(j.call(bad, bad))
		}
	}
}

func TestJoinsRefuseRowsOfUnlikeLengths(t *testing.T) {
	for _, j := range joins() {
		for _, m := range farLengths() {
			for _, n := range farLengths() {
				if m != n {
					refused(t, j.name, api.ErrUnlike)(j.call(rowOf(make([]bool, m)), rowOf(make([]bool, n))))
				}
			}
		}
	}
}
