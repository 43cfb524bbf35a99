package whole_test

import (
	"testing"

	"vivarium/api"
	"vivarium/whole"
)

// P1.8: what follows of the other promises.

func further[T whole.Signed](t *testing.T) {
	eachPair(func(a, n T) {
		next, there := whole.Add(a, n)
		if n < 1 || !there {
			return
		}
		r, _ := whole.Mod(a, n)
		rNext, _ := whole.Mod(next, n)
		q, _ := whole.Div(a, n)
		qNext, _ := whole.Div(next, n)
		more, fits := whole.Add(q, 1)
		if r != rNext || fits && more != qNext {
			t.Fatalf("%d and %d by %d: Mod %d and %d, Div %d and %d", a, next, n, r, rNext, q, qNext)
		}
	})
}

func TestOneFurther(t *testing.T) {
	inAllKinds(t, [10]func(*testing.T){
		further[int], further[int8], further[int16], further[int32], further[int64],
		further[ownInt], further[ownInt8], further[ownInt16], further[ownInt32], further[ownInt64],
	})
}

func turned[T whole.Signed](t *testing.T) {
	eachPair(func(a, b T) {
		sum, okSum := whole.Add(a, b)
		sumTurned, okSumTurned := whole.Add(b, a)
		product, okProduct := whole.Mul(a, b)
		productTurned, okProductTurned := whole.Mul(b, a)
		g, okGcd := whole.Gcd(a, b)
		gTurned, okGcdTurned := whole.Gcd(b, a)
		if sum != sumTurned || okSum != okSumTurned || product != productTurned || okProduct != okProductTurned || g != gTurned || okGcd != okGcdTurned {
			t.Fatalf("%d and %d do not turn about", a, b)
		}
	})
}

func TestTurnedAbout(t *testing.T) {
	inAllKinds(t, [10]func(*testing.T){
		turned[int], turned[int8], turned[int16], turned[int32], turned[int64],
		turned[ownInt], turned[ownInt8], turned[ownInt16], turned[ownInt32], turned[ownInt64],
	})
}

// widened holds what a narrow kind answers with true against what a wide one answers.
func widened[N, W whole.Signed](t *testing.T) {
	narrow := []func(a, b N) (N, bool){whole.Mod[N], whole.Div[N], whole.Add[N], whole.Mul[N], whole.Gcd[N]}
	wider := []func(a, b W) (W, bool){whole.Mod[W], whole.Div[W], whole.Add[W], whole.Mul[W], whole.Gcd[W]}
	eachPair(func(a, b N) {
		for i := range narrow {
			small, ok := narrow[i](a, b)
			great, is := wider[i](W(a), W(b))
			if ok && (!is || W(small) != great) {
				t.Fatalf("call %d of %d and %d: %d, and wider %d %v", i, a, b, small, great, is)
			}
		}
	})
	for _, n := range samples[int]() {
		small, ok := whole.Fits[N](n)
		great, is := whole.Fits[W](n)
		if ok && (!is || W(small) != great) {
			t.Fatalf("Fits(%d): %d, and wider %d %v", n, small, great, is)
		}
	}
}

func TestWiderKindsAnswerToo(t *testing.T) {
	t.Run("int8 and int16", widened[int8, int16])
	t.Run("int8 and int32", widened[int8, int32])
	t.Run("int8 and int64", widened[int8, int64])
	t.Run("int8 and int", widened[int8, int])
	t.Run("int16 and int32", widened[int16, int32])
	t.Run("int16 and int64", widened[int16, int64])
	t.Run("int16 and int", widened[int16, int])
	t.Run("int32 and int64", widened[int32, int64])
	t.Run("int32 and int", widened[int32, int])
	t.Run("ownInt8 and ownInt16", widened[ownInt8, ownInt16])
}

func TestWhatDividesBothDividesGcd(t *testing.T) {
	for a := -128; a <= 127; a++ {
		for b := -128; b <= 127; b++ {
			g, ok := whole.Gcd(a, b)
			if !ok || g < 0 {
				t.Fatalf("Gcd(%d, %d): %d %v", a, b, g, ok)
			}
			for d := 1; d <= 128; d++ {
				if a%d == 0 && b%d == 0 && g%d != 0 {
					t.Fatalf("%d divides %d and %d, not %d", d, a, b, g)
				}
			}
			if g != 0 && (a%g != 0 || b%g != 0) {
				t.Fatalf("%d does not divide %d and %d", g, a, b)
			}
		}
	}
}

func TestParseOfText(t *testing.T) {
	list := samples[int]()
	for n := -2000; n <= 2000; n++ {
		list = append(list, n)
	}
	for _, n := range list {
		if got, e := whole.Parse(whole.Text(n)); got != n || e != api.OK {
			t.Errorf("Parse of %q: %d, error %d", whole.Text(n), got, int(e))
		}
	}
}
