package whole_test

import (
	"math/big"
	"strings"
	"testing"

	"vivarium/api"
	"vivarium/whole"
)

// P1.1

func parts[T whole.Signed](t *testing.T) {
	eachPair(func(a, n T) {
		r, okMod := whole.Mod(a, n)
		q, okDiv := whole.Div(a, n)
		if n < 1 {
			if r != 0 || okMod || q != 0 || okDiv {
				t.Fatalf("%d by %d: Mod %d %v, Div %d %v", a, n, r, okMod, q, okDiv)
			}
			return
		}
		// With n above 0, Euclid's remainder and the one from 0 to n - 1 are the same.
		wantQ, wantR := new(big.Int).DivMod(wide(a), wide(n), new(big.Int))
		if !okMod || !okDiv || wide(q).Cmp(wantQ) != 0 || wide(r).Cmp(wantR) != 0 {
			t.Fatalf("%d by %d: Mod %d %v, Div %d %v, not %v and %v", a, n, r, okMod, q, okDiv, wantR, wantQ)
		}
	})
}

func TestModAndDiv(t *testing.T) {
	inAllKinds(t, [10]func(*testing.T){
		parts[int], parts[int8], parts[int16], parts[int32], parts[int64],
		parts[ownInt], parts[ownInt8], parts[ownInt16], parts[ownInt32], parts[ownInt64],
	})
}

// P1.2

func sums[T whole.Signed](t *testing.T) {
	eachPair(func(a, b T) {
		sum, ok := whole.Add(a, b)
		if want, fits := within[T](new(big.Int).Add(wide(a), wide(b))); sum != want || ok != fits {
			t.Fatalf("Add(%d, %d): %d %v, not %d %v", a, b, sum, ok, want, fits)
		}
		product, ok := whole.Mul(a, b)
		if want, fits := within[T](new(big.Int).Mul(wide(a), wide(b))); product != want || ok != fits {
			t.Fatalf("Mul(%d, %d): %d %v, not %d %v", a, b, product, ok, want, fits)
		}
	})
}

func TestAddAndMul(t *testing.T) {
	inAllKinds(t, [10]func(*testing.T){
		sums[int], sums[int8], sums[int16], sums[int32], sums[int64],
		sums[ownInt], sums[ownInt8], sums[ownInt16], sums[ownInt32], sums[ownInt64],
	})
}

// P1.3

func divisors[T whole.Signed](t *testing.T) {
	eachPair(func(a, b T) {
		g, ok := whole.Gcd(a, b)
		exact := new(big.Int).GCD(nil, nil, new(big.Int).Abs(wide(a)), new(big.Int).Abs(wide(b)))
		if want, fits := within[T](exact); g != want || ok != fits {
			t.Fatalf("Gcd(%d, %d): %d %v, not %d %v", a, b, g, ok, want, fits)
		}
	})
}

func TestGcd(t *testing.T) {
	inAllKinds(t, [10]func(*testing.T){
		divisors[int], divisors[int8], divisors[int16], divisors[int32], divisors[int64],
		divisors[ownInt], divisors[ownInt8], divisors[ownInt16], divisors[ownInt32], divisors[ownInt64],
	})
}

func leastGcd[T whole.Signed](t *testing.T) {
	low := least[T]()
	for _, pair := range [][2]T{{low, 0}, {0, low}, {low, low}} {
		if g, ok := whole.Gcd(pair[0], pair[1]); g != 0 || ok {
			t.Errorf("Gcd(%d, %d): %d %v, though it does not fit", pair[0], pair[1], g, ok)
		}
	}
	for _, pair := range [][3]T{{low, -1, 1}, {low, 1, 1}, {low, 96, 32}, {low, low / 2, -(low / 2)}, {0, low + 1, most[T]()}} {
		if g, ok := whole.Gcd(pair[0], pair[1]); g != pair[2] || !ok {
			t.Errorf("Gcd(%d, %d): %d %v, not %d", pair[0], pair[1], g, ok, pair[2])
		}
	}
}

func TestGcdOfTheLeastNumber(t *testing.T) {
	inAllKinds(t, [10]func(*testing.T){
		leastGcd[int], leastGcd[int8], leastGcd[int16], leastGcd[int32], leastGcd[int64],
		leastGcd[ownInt], leastGcd[ownInt8], leastGcd[ownInt16], leastGcd[ownInt32], leastGcd[ownInt64],
	})
}

// P1.4

func nearest[T whole.Signed](t *testing.T) {
	list := few[T]()
	for _, v := range list {
		for _, low := range list {
			for _, high := range list {
				want := max(low, min(v, high))
				if got := whole.Near(v, low, high); got != want {
					t.Fatalf("Near(%d, %d, %d): %d, not %d", v, low, high, got, want)
				}
			}
		}
	}
}

func TestNear(t *testing.T) {
	inAllKinds(t, [10]func(*testing.T){
		nearest[int], nearest[int8], nearest[int16], nearest[int32], nearest[int64],
		nearest[ownInt], nearest[ownInt8], nearest[ownInt16], nearest[ownInt32], nearest[ownInt64],
	})
}

// P1.5

func fits[T whole.Signed](t *testing.T) {
	list := append(samples[int](), 1<<8, 1<<16, 1<<32, 1<<32+5, -1<<32, 1<<40)
	for _, n := range list {
		got, ok := whole.Fits[T](n)
		if want, may := within[T](big.NewInt(int64(n))); got != want || ok != may {
			t.Errorf("Fits(%d): %d %v, not %d %v", n, got, ok, want, may)
		}
	}
}

func TestFits(t *testing.T) {
	inAllKinds(t, [10]func(*testing.T){
		fits[int], fits[int8], fits[int16], fits[int32], fits[int64],
		fits[ownInt], fits[ownInt8], fits[ownInt16], fits[ownInt32], fits[ownInt64],
	})
}

// P1.6

func TestText(t *testing.T) {
	for _, n := range samples[int]() {
		if got, want := whole.Text(n), big.NewInt(int64(n)).String(); got != want {
			t.Errorf("Text(%d): %q, not %q", n, got, want)
		}
	}
	if got := whole.Text(-1 << 63); got != "-9223372036854775808" {
		t.Errorf("Text of the least number: %q", got)
	}
}

// P1.7

func TestParseNumbers(t *testing.T) {
	for s, want := range map[string]int{
		"0": 0, "-0": 0, "00": 0, "-000": 0, "7": 7, "007": 7, "-007": -7, "9": 9, "10": 10, "-40": -40,
		"1099511627776":                  1 << 40,
		"9223372036854775806":            1<<63 - 2,
		"9223372036854775807":            1<<63 - 1,
		"00000000009223372036854775807":  1<<63 - 1,
		"-9223372036854775807":           -1<<63 + 1,
		"-9223372036854775808":           -1 << 63,
		"-00000000009223372036854775808": -1 << 63,
		strings.Repeat("0", 100) + "12":  12,
	} {
		if n, e := whole.Parse(s); n != want || e != api.OK {
			t.Errorf("Parse(%q): %d, error %d", s, n, int(e))
		}
	}
}

func TestParseWhatIsNoNumber(t *testing.T) {
	huge := strings.Repeat("9", 40)
	for _, s := range []string{
		"", "-", "--", "--1", "+", "+1", "-+1", "+-1", "1-", "1+", "1-1", " ", " 1", "1 ", "- 1", "1 1", "\t1", "1\n", "1\r", "\x001", "1\x00",
		"1_0", "1,0", "1.0", "1e3", "0x1f", "0b1", "0o7", "a", "1a", "a1", "/", ":", "1/", "1:", "\u0663", "\uff11", "1\u0663", "\u22121", "\xff", "1\xff",
		"inf", "NaN", huge + "x", "x" + huge, "-" + huge + "-", huge + " ", "+" + huge, huge + "_" + huge,
	} {
		if n, e := whole.Parse(s); n != 0 || e != api.ErrNumber {
			t.Errorf("Parse(%q): %d, error %d", s, n, int(e))
		}
	}
	for c := range 256 {
		for _, s := range []string{string([]byte{byte(c)}), string([]byte{'4', byte(c)}), string([]byte{'-', '4', byte(c), '2'})} {
			_, e := whole.Parse(s)
			if isDigit := c >= '0' && c <= '9'; (e == api.OK) != isDigit || !isDigit && e != api.ErrNumber {
				t.Errorf("Parse(%q): error %d", s, int(e))
			}
		}
	}
}

func TestParseWhatDoesNotFit(t *testing.T) {
	for _, s := range []string{
		"9223372036854775808", "-9223372036854775809", "9223372036854775810", "0009223372036854775808", "-0009223372036854775809",
		"18446744073709551615", "18446744073709551616", "18446744073709551617", "-18446744073709551616", "36893488147419103233",
		"1" + strings.Repeat("0", 40), "-1" + strings.Repeat("0", 40), strings.Repeat("9", 1000),
	} {
		if n, e := whole.Parse(s); n != 0 || e != api.ErrRange {
			t.Errorf("Parse(%q): %d, error %d", s, n, int(e))
		}
	}
}

func TestParseLongTexts(t *testing.T) {
	noughts := strings.Repeat("0", api.MaxText)
	for _, c := range []struct {
		name, text string
		n          int
		e          api.Errno
	}{
		{"as long as may be", noughts[1:] + "7", 7, api.OK},
		{"as long as may be, below 0", "-" + noughts[2:] + "7", -7, api.OK},
		{"as long as may be, too great", "1" + noughts[1:], 0, api.ErrRange},
		{"as long as may be, no number", noughts[1:] + "x", 0, api.ErrNumber},
		{"one byte more", noughts + "7", 0, api.ErrText},
		{"one byte more, below 0", "-" + noughts, 0, api.ErrText},
		{"one byte more, too great", "1" + noughts, 0, api.ErrText},
		{"one byte more, no number", "x" + noughts, 0, api.ErrText},
	} {
		if n, e := whole.Parse(c.text); n != c.n || e != c.e {
			t.Errorf("%s: %d, error %d", c.name, n, int(e))
		}
	}
}
