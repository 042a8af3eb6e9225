package tests

import (
	"fmt"
	"math"
	"testing"

	"loop.example/g01157/impl"
)

func TestClipGradients(t *testing.T) {
	const tiny = 1e-30 // its square is under the least
	long := []float32{0.1, -0.7, 1.3}
	seven := []float32{1, 2, 3, 4, 5, 6, 7}
	for _, c := range []struct {
		name            string
		gradients       []float32
		most            float32
		want            []float32
		length          float32
		isNotMultiplied bool
	}{
		{name: "the example", gradients: []float32{3, 4}, most: 2.5, want: []float32{1.5, 2}, length: 5},
		{name: "told bits", gradients: long, most: 1, want: []float32{of(0x3d8a641a), of(0xbef22f2d), of(0x3f60e2a9)}, length: of(0x3fbd6c36)},
		{name: "seven with told bits", gradients: seven, most: 0.3, want: []float32{of(0x3ccfb482), of(0x3d4fb482), of(0x3d9bc762), of(0x3dcfb482), of(0x3e01d0d1), of(0x3e1bc762), of(0x3e35bdf2)}, length: of(0x413d5087)},
		{name: "a most that is the length", gradients: []float32{3, -4}, most: 5, length: 5, isNotMultiplied: true},
		{name: "a most above", gradients: []float32{3, -4}, most: 5.5, length: 5, isNotMultiplied: true},
		{name: "a most just below", gradients: []float32{3, -4}, most: of(0x409fffff), want: []float32{of(0x403ffffe), of(0xc07ffffe)}, length: 5},
		{name: "no gradients", most: 1, length: 0, isNotMultiplied: true}, {name: "no gradients, -1", most: -1, length: 0, isNotMultiplied: true},
		{name: "no gradients, none", most: nan, length: 0, isNotMultiplied: true},
		{name: "one below", gradients: []float32{-8}, most: 2, want: []float32{-2}, length: 8},
		{name: "a most of +0", gradients: []float32{3, -4, 0, minusZero}, most: 0, want: []float32{0, minusZero, 0, minusZero}, length: 5},
		{name: "a most of -0", gradients: []float32{3, -4, 0, minusZero}, most: minusZero, want: []float32{minusZero, 0, minusZero, 0}, length: 5},
		{name: "a negative most", gradients: []float32{3, -4}, most: -2.5, want: []float32{-1.5, 2}, length: 5},
		{name: "a most of infinity", gradients: []float32{3, -4}, most: infinity, length: 5, isNotMultiplied: true},
		{name: "a most of -infinity", gradients: []float32{3, -4, 0}, most: -infinity, want: []float32{-infinity, infinity, nan}, length: 5},
		{name: "a most that is none", gradients: []float32{3, -4}, most: nan, length: 5, isNotMultiplied: true},
		{name: "a length that overflows", gradients: []float32{greatest, -1, 0}, most: 1, want: []float32{0, minusZero, 0}, length: infinity},
		{name: "a sum that overflows", gradients: []float32{1.5e19, 1.5e19}, most: 1, want: []float32{0, 0}, length: infinity},
		{name: "a length that overflows, the greatest", gradients: []float32{greatest, -1}, most: greatest, want: []float32{0, minusZero}, length: infinity},
		{name: "a length that overflows, infinity", gradients: []float32{greatest, -1}, most: infinity, length: infinity, isNotMultiplied: true},
		{name: "a length that overflows, -1", gradients: []float32{greatest, -1}, most: -1, want: []float32{minusZero, 0}, length: infinity},
		{name: "a length that overflows, -infinity", gradients: []float32{greatest, 0}, most: -infinity, want: []float32{nan, nan}, length: infinity},
		{name: "a length that overflows, none", gradients: []float32{greatest, -1}, most: nan, length: infinity, isNotMultiplied: true},
		{name: "an infinity", gradients: []float32{-infinity, 2}, most: 1, want: []float32{nan, 0}, length: infinity},
		{name: "an infinity as both", gradients: []float32{-infinity, 2}, most: infinity, length: infinity, isNotMultiplied: true},
		{name: "a length of 0", gradients: []float32{0, minusZero}, most: 0, length: 0, isNotMultiplied: true},
		{name: "a length of 0, -0", gradients: []float32{0, minusZero}, most: minusZero, length: 0, isNotMultiplied: true},
		{name: "a length of 0, 1", gradients: []float32{0, minusZero}, most: 1, length: 0, isNotMultiplied: true},
		{name: "a length of 0, -1", gradients: []float32{0, minusZero}, most: -1, want: []float32{nan, nan}, length: 0},
		{name: "a length of 0, -infinity", gradients: []float32{0, minusZero}, most: -infinity, want: []float32{nan, nan}, length: 0},
		{name: "a length under the least", gradients: []float32{tiny, -tiny}, most: 0, length: 0, isNotMultiplied: true},
		{name: "a length under the least, below", gradients: []float32{tiny, -tiny}, most: -1, want: []float32{-infinity, infinity}, length: 0},
		{name: "a not-a-number", gradients: []float32{1, of(0xff800001)}, most: 1, length: nan, isNotMultiplied: true},
		{name: "a not-a-number, 0", gradients: []float32{1, nan}, most: 0, length: nan, isNotMultiplied: true},
		{name: "a not-a-number, -infinity", gradients: []float32{1, nan}, most: -infinity, length: nan, isNotMultiplied: true},
		{name: "a not-a-number and an infinity", gradients: []float32{infinity, nan}, most: 1, length: nan, isNotMultiplied: true},
		{name: "a great one first", gradients: append([]float32{4096}, filled(8, 1)...), most: 4096, length: 4096, isNotMultiplied: true},
		{name: "a great one last", gradients: append(filled(8, 1), 4096), most: 4097, length: 4096.0009765625, isNotMultiplied: true},
	} {
		if c.isNotMultiplied {
			c.want = c.gradients
		}
		got, length, ok := impl.ClipGradients(c.gradients, c.most)
		wantNumbersOk(t, "ClipGradients, "+c.name, got, ok, c.want)
		wantNumber(t, "ClipGradients, "+c.name+": length", length, c.length)
	}
}

// clipByRule is the text of the document.
func clipByRule(gradients []float32, most float32) ([]float32, float32) {
	length := float32(math.Sqrt(float64(dotByRule(gradients, gradients))))
	clipped := append([]float32{}, gradients...)
	if length > most {
		factor := float32(most / length)
		for i := range clipped {
			clipped[i] = float32(clipped[i] * factor)
		}
	}
	return clipped, length
}

func TestClipGradientsOfEachLength(t *testing.T) {
	c := chance(230)
	for count := range impl.MaxNumbers + 1 {
		for _, gradients := range c.lists(count) {
			for _, most := range append(c.anyList(3), c.small(), 10*c.small(), 100) {
				want, wantLength := clipByRule(gradients, most)
				got, length, ok := impl.ClipGradients(gradients, most)
				wantValue(t, "ClipGradients", textOfResult(got, length, ok), textOfResult(want, wantLength, true))
			}
		}
	}
	for _, count := range []int{impl.MaxNumbers + 1, 1000} {
		for _, most := range []float32{0, 1, infinity, nan} {
			got, length, ok := impl.ClipGradients(filled(count, 1), most)
			wantFailed(t, "ClipGradients of too many", several{got, length}, ok)
		}
	}
}

func TestDecayParams(t *testing.T) {
	near := of(0x3f800001)
	for _, c := range []struct {
		name         string
		params, want []float32
		rate         float32
	}{
		{"one", []float32{4}, []float32{3}, 0.25},
		{"told bits", []float32{0.1, -0.7, 1.3}, []float32{of(0x3dcac083), of(0xbf316872), of(0x3fa4bc6a)}, 0.01},
		{"none", nil, nil, 0.5}, {"none and no rate", nil, nil, nan},
		{"+0", []float32{0, minusZero, 2, -2, infinity, nan}, []float32{0, 0, 2, -2, nan, nan}, 0},
		{"-0", []float32{0, minusZero, 2, -2, infinity, nan}, []float32{0, minusZero, 2, -2, nan, nan}, minusZero},
		{"1", []float32{0, minusZero, 2, -2, infinity, -infinity, greatest}, []float32{0, 0, 0, 0, nan, nan, 0}, 1},
		{"2", []float32{3, -3, greatest, infinity}, []float32{-3, 3, -infinity, nan}, 2},
		{"-1", []float32{3, -3, greatest, infinity, -infinity}, []float32{6, -6, infinity, infinity, -infinity}, -1},
		{"infinity", []float32{0, 2, -2, infinity}, []float32{nan, -infinity, infinity, nan}, infinity},
		{"-infinity", []float32{0, 2, -2, infinity}, []float32{nan, infinity, -infinity, infinity}, -infinity},
		{"a not-a-number", []float32{0, 2, infinity}, []float32{nan, nan, nan}, nan},
		{"a product under the least", []float32{least, -least}, []float32{least, -least}, 0.5},
		{"a product that is rounded before", []float32{near}, []float32{of(0xb4000000)}, near},
	} {
		got, ok := impl.DecayParams(c.params, c.rate)
		wantNumbersOk(t, "DecayParams, "+c.name, got, ok, c.want)
	}
}

func TestDecayParamsOfEachLength(t *testing.T) {
	c := chance(231)
	for count := range impl.MaxNumbers + 1 {
		for _, params := range c.lists(count) {
			for _, rate := range append(c.anyList(3), c.small(), 0.001) {
				want := make([]float32, count)
				for i, w := range params {
					product := float32(rate * w)
					want[i] = w - product
				}
				got, ok := impl.DecayParams(params, rate)
				wantValue(t, "DecayParams", textOfResult(got, ok), textOfResult(want, true))
			}
		}
	}
	for _, count := range []int{impl.MaxNumbers + 1, 1000} {
		got, ok := impl.DecayParams(filled(count, 1), 0.5)
		wantFailed(t, "DecayParams of too many", got, ok)
	}
}

func TestRateAt(t *testing.T) {
	for _, c := range []struct {
		base             float32
		warm, half, step int64
		want             float32
	}{
		{8, 4, 10, 0, 2}, {8, 4, 10, 1, 4}, {8, 4, 10, 3, 8}, {8, 4, 10, 4, 8}, {8, 4, 10, 13, 8}, {8, 4, 10, 14, 4}, {8, 4, 10, 23, 4}, {8, 4, 10, 24, 2}, {8, 4, 10, 25, 2},
		{0.1, 7, 3, 0, of(0x3c6a0ea1)}, {0.1, 7, 3, 1, of(0x3cea0ea1)}, {0.1, 7, 3, 2, of(0x3d2f8af9)}, {0.1, 7, 3, 5, of(0x3daf8af9)}, {0.1, 7, 3, 6, 0.1}, {0.3, 1000, 1, 998, of(0x3e997248)},
		{8, 0, 1, 0, 8}, {8, 0, 1, 1, 4}, {8, 0, 1, 2, 2}, {8, 0, 2, 1, 8}, {8, 0, 2, 2, 4}, {8, 1, 1, 0, 8}, {8, 1, 1, 1, 8}, {8, 1, 1, 2, 4},
		{8, 0, 1000, 999, 8}, {8, 0, 1000, 1000, 4}, {8, 1, 999, 999, 8}, {8, 1, 999, 1000, 4}, {8, 1, 1000, 1000, 8},
		{8, 1000, 1, 999, 8}, {8, 1000, 1, 1000, 8}, {8, 999, 1, 1000, 4}, {1000, 1000, 1000, 0, 1}, {8, 0, 1, 1000, 0}, {-8, 0, 1, 1000, minusZero},
		{greatest, 4, 1, 0, greatest / 4}, {greatest, 4, 1, 1, infinity}, {greatest, 0, 1, 127, of(0x3fffffff)}, {greatest, 0, 1, 1000, 0}, {least, 4, 1, 0, 0}, {least, 4, 1, 2, least},
		// Halves are rounded one after another: 5, 2 and 1, or 11, 6, 3 and 2.
		{5 * least, 0, 1, 1, 2 * least}, {5 * least, 0, 1, 2, least}, {5 * least, 0, 1, 3, 0}, {11 * least, 0, 1, 1, 6 * least}, {11 * least, 0, 1, 2, 3 * least}, {11 * least, 0, 1, 3, 2 * least},
		{infinity, 0, 1, 1000, infinity}, {-infinity, 4, 1, 1, -infinity}, {nan, 4, 1, 1, nan}, {nan, 0, 1, 5, nan}, {0, 4, 1, 1, 0}, {minusZero, 4, 1, 1, minusZero}, {minusZero, 0, 1, 9, minusZero},
	} {
		got, ok := impl.RateAt(c.base, c.warm, c.half, c.step)
		wantNumberOk(t, fmt.Sprintf("RateAt of %g, %d, %d and %d", c.base, c.warm, c.half, c.step), got, ok, c.want)
	}
}

// rateByRule is the text of the document.
func rateByRule(base float32, warm, half, step int64) float32 {
	if step < warm {
		product := float32(base * float32(step+1))
		return product / float32(warm)
	}
	for behind := warm + half; behind <= step; behind += half {
		base = float32(base / 2)
	}
	return base
}

func TestRatesOfEachStep(t *testing.T) {
	c := chance(232)
	for _, warm := range []int64{0, 1, 2, 3, 7, 100, 501, 999, 1000} {
		for _, half := range []int64{1, 2, 3, 7, 10, 64, 333, 499, 500, 501, 999, 1000} {
			for step := range int64(impl.MaxSteps + 1) {
				base := c.mixedList(1)[0]
				got, ok := impl.RateAt(base, warm, half, step)
				wantNumberOk(t, "RateAt", got, ok, rateByRule(base, warm, half, step))
			}
		}
	}
}

func TestOtherNumbersOfRates(t *testing.T) {
	isCount := func(n int64) bool { return 0 <= n && n <= 1000 }
	integers := append(anyIntegers(), 999, 1000, 1001, -2, 1<<32+1)
	for _, warm := range integers {
		for _, half := range integers {
			for _, step := range integers {
				got, ok := impl.RateAt(8, warm, half, step)
				if isCount(warm) && isCount(half) && half != 0 && isCount(step) {
					wantNumberOk(t, "RateAt", got, ok, rateByRule(8, warm, half, step))
				} else {
					wantFailed(t, "RateAt of another number", got, ok)
				}
			}
		}
	}
}

func TestPowerOf(t *testing.T) {
	for _, c := range []struct {
		base  float32
		power int64
		want  float32
	}{
		{0.5, 3, 0.125}, {2, 10, 1024}, {-2, 3, -8}, {-2, 4, 16}, {2, 127, of(0x7f000000)}, {2, 128, infinity}, {2, 1000, infinity}, {-2, 1000, infinity}, {-2, 999, -infinity}, {1, 1000, 1}, {-1, 1000, 1}, {-1, 999, -1},
		{0.9, 10, of(0x3eb285f8)}, {0.9, 1000, 4 * least}, {0.999, 1000, of(0x3ebc4335)}, {0.1, 3, of(0x3a83126f)}, {-1.1, 7, of(0xbff96f92)}, {1.1, 1000, infinity}, {0.5, 149, least}, {0.5, 150, 0},
		{-0.5, 149, -least}, {-0.5, 150, 0}, {-0.5, 151, minusZero}, {0, 1, 0}, {0, 1000, 0}, {minusZero, 1, minusZero}, {minusZero, 2, 0}, {minusZero, 999, minusZero}, {greatest, 1, greatest}, {greatest, 2, infinity},
		{infinity, 1, infinity}, {-infinity, 1, -infinity}, {-infinity, 2, infinity}, {-infinity, 999, -infinity}, {nan, 1, nan}, {nan, 1000, nan}, {least, 1, least}, {least, 2, 0}, {-least, 3, minusZero},
	} {
		got, ok := impl.PowerOf(c.base, c.power)
		wantNumberOk(t, fmt.Sprintf("PowerOf %g and %d", c.base, c.power), got, ok, c.want)
	}
	for _, base := range edges() {
		got, ok := impl.PowerOf(base, 0)
		wantNumberOk(t, "PowerOf a number and 0", got, ok, 1)
		got, ok = impl.PowerOf(base, 1)
		wantNumberOk(t, "PowerOf a number and 1", got, ok, base)
		for _, power := range []int64{-1, -2, impl.MaxSteps + 1, 2000, 1 << 32, math.MaxInt64, math.MinInt64} {
			got, ok = impl.PowerOf(base, power)
			wantFailed(t, "PowerOf another number", got, ok)
		}
	}
}

func TestPowersOneAfterAnother(t *testing.T) {
	c := chance(233)
	bases := append(edges(), 0.9, 0.99, 0.999, 1.001, -0.97, c.small(), c.small())
	for _, base := range bases {
		want := float32(1)
		for power := range int64(impl.MaxSteps + 1) {
			got, ok := impl.PowerOf(base, power)
			wantNumberOk(t, "PowerOf", got, ok, want)
			want = float32(want * base)
		}
	}
}
