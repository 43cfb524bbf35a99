package shape_test

import (
	"testing"

	"vivarium/api"
)

// P24.5: Mix.

// TestMixOfAllPairs: of worlds of 2 times 2 with three states, laid over one another just so and askew.
func TestMixOfAllPairs(t *testing.T) {
	for _, x := range []int{0, 1, 2} {
		for a := range grids(2, 2, 3) {
			for b := range grids(2, 2, 3) {
				b = b.turned(0, x, x/2)
				for _, how := range hows {
					mixes(t, a.shape(), b.shape(), how, mixed(a, b, how).shape())
				}
			}
		}
	}
}

func TestMixIsTheModels(t *testing.T) {
	d := dice(31)
	shared := 0
	for range 10000 {
		a, b := d.world(), d.world()
		if d.below(3) == 0 {
			for p, s := range a {
				if d.below(2) == 0 {
					b[p] = s ^ uint8(d.below(2))<<7 | 1
				}
			}
		}
		shared += min(1, len(mixed(a, b, api.MixAnd)))
		for _, how := range hows {
			mixes(t, a.shape(), b.shape(), how, mixed(a, b, how).shape())
		}
	}
	if shared < 2000 {
		t.Error(shared)
	}
}

func TestMixKnowsFourWays(t *testing.T) {
	for how := range 256 {
		if 1 <= how && how <= 4 {
			continue
		}
		for _, s := range []api.Shape{of(), glider(), of(line(0, 0, many, 1)...)} {
			noMix(t, s, of(), uint8(how), api.ErrHow)
			noMix(t, of(), s, uint8(how), api.ErrHow)
			noMix(t, glider(), s, uint8(how), api.ErrHow) // ahead of too many
		}
	}
}

func TestMixWithNothing(t *testing.T) {
	for _, how := range hows {
		mixes(t, of(), of(), how, of())
		mixes(t, api.Shape{}, api.Shape{}, how, of())
		want := glider()
		if how == api.MixAnd {
			want = of()
		}
		mixes(t, glider(), of(), how, want)
		mixes(t, of(), glider(), how, want)
	}
}

func TestMixUpToMaxFar(t *testing.T) {
	a := of(cell(-far, -far, 1), cell(far, -far, 2), cell(far, far, 3))
	b := of(cell(far, -far, 4), cell(-far, far, 5), cell(far, far, 6))
	mixes(t, a, b, api.MixOver, of(cell(-far, -far, 1), cell(far, -far, 4), cell(-far, far, 5), cell(far, far, 6)))
	mixes(t, a, b, api.MixUnder, of(cell(-far, -far, 1), cell(far, -far, 2), cell(-far, far, 5), cell(far, far, 3)))
	mixes(t, a, b, api.MixXor, of(cell(-far, -far, 1), cell(-far, far, 5)))
	mixes(t, a, b, api.MixAnd, of(cell(far, -far, 2), cell(far, far, 3)))
}

// TestMixOfAsManyAsMayBe: what is counted is what comes of it.
func TestMixOfAsManyAsMayBe(t *testing.T) {
	all, half, rest := line(0, 0, many, 1), line(0, 0, many/2, 1), line(many/2, 0, many/2, 2)
	for _, how := range []uint8{api.MixOver, api.MixUnder, api.MixXor} {
		mixes(t, of(half...), of(rest...), how, of(append(line(0, 0, many/2, 1), rest...)...))
		noMix(t, of(half...), of(line(many/2, 0, many/2+1, 2)...), how, api.ErrMany)
		noMix(t, of(line(-1, 0, many/2+1, 2)...), of(rest...), how, api.ErrMany)
		noMix(t, of(all...), of(cell(0, 1, 1)), how, api.ErrMany)
		noMix(t, of(cell(0, -1, 1)), of(all...), how, api.ErrMany)
		noMix(t, of(all...), of(line(0, 1, many, 3)...), how, api.ErrMany)
	}
	mixes(t, of(all...), of(line(0, 0, many, 2)...), api.MixOver, of(line(0, 0, many, 2)...))
	mixes(t, of(all...), of(line(0, 0, many, 2)...), api.MixUnder, of(all...))
	mixes(t, of(all...), of(line(0, 0, many, 2)...), api.MixAnd, of(all...))
	mixes(t, of(all...), of(line(0, 0, many, 2)...), api.MixXor, of())
	mixes(t, of(all...), of(line(many/2, 0, many, 2)...), api.MixXor, of(append(line(0, 0, many/2, 1), line(many, 0, many/2, 2)...)...))
	noMix(t, of(all...), of(line(many/2-1, 0, many-1, 2)...), api.MixOver, api.ErrMany)
	noMix(t, of(all...), of(line(many/2+1, 0, many, 2)...), api.MixXor, api.ErrMany) // two more
	noMix(t, of(all...), of(cell(0, 0, 5), cell(-1, 1, 5), cell(0, 1, 5)), api.MixXor, api.ErrMany)
	mixes(t, of(all...), of(cell(0, 0, 5), cell(0, 1, 5)), api.MixXor, of(append(line(1, 0, many-1, 1), cell(0, 1, 5))...))
	mixes(t, of(all...), of(line(0, 1, many, 3)...), api.MixAnd, of())
}
