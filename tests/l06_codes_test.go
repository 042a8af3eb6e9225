package tests

import (
	"math"
	"slices"
	"testing"

	"loop.example/g01157/impl"
)

func TestSpreadOf(t *testing.T) {
	for _, c := range []struct {
		name string
		list []float32
		want float32
	}{
		{"the example", []float32{127, 1, -63.5}, 1},
		{"none", nil, 0}, {"an empty list", []float32{}, 0},
		{"one", []float32{1}, of(0x3c010204)}, {"one below", []float32{-254}, 2},
		{"+0", []float32{0}, 0}, {"-0", []float32{minusZero}, 0}, {"both zeros", []float32{minusZero, 0, minusZero}, 0},
		{"the first", []float32{-127, 3, 126}, 1}, {"the last", []float32{1, -2, 3, -254}, 2},
		{"the greatest", []float32{greatest, 1}, of(0x7c010204)}, {"below the greatest", []float32{1, -greatest}, of(0x7c010204)},
		{"the least", []float32{least, 0}, 0}, {"63 of the least", []float32{63 * least}, 0}, {"64 of the least", []float32{-64 * least, 0}, least}, {"190 of the least", []float32{190 * least}, least}, {"191 of the least", []float32{191 * least}, 2 * least},
		{"three", []float32{0.1, -0.7, 0.3}, of(0x3bb49c6c)},
	} {
		got, ok := impl.SpreadOf(c.list)
		wantNumberOk(t, "SpreadOf, "+c.name, got, ok, c.want)
	}
}

func TestCodesOf(t *testing.T) {
	for _, c := range []struct {
		name   string
		list   []float32
		spread float32
		want   []int64
	}{
		{"the example", []float32{127, 1, -63.5}, 1, []int64{127, 1, -64}},
		{"none", nil, 1, nil}, {"none with a spread of 0", nil, 0, nil},
		{"halves", []float32{0.5, 1.5, 2.5, 3.5, -0.5, -1.5, -2.5, -3.5}, 1, []int64{0, 2, 2, 4, 0, -2, -2, -4}},
		{"halves with another spread", []float32{0.375, 1.125, 1.875, -0.375, -1.125, -1.875}, 0.75, []int64{0, 2, 2, 0, -2, -2}},
		{"beside a half", []float32{of(0x3effffff), of(0x3f000001), of(0xbeffffff), of(0xbf000001), of(0x3fbfffff), of(0x401fffff)}, 1, []int64{0, 1, 0, -1, 1, 2}},
		{"both zeros", []float32{0, minusZero}, 1, []int64{0, 0}},
		{"the last halves", []float32{125.5, 126.5, 127.5, -125.5, -126.5, -127.5}, 1, []int64{126, 126, 127, -126, -126, -127}},
		{"behind the last", []float32{127, 127.25, 128, 129, 1e9, 1e20, greatest}, 1, []int64{127, 127, 127, 127, 127, 127, 127}},
		{"behind the last below", []float32{-127, -127.25, -128, -129, -1e9, -1e20, -greatest}, 1, []int64{-127, -127, -127, -127, -127, -127, -127}},
		{"a spread of 0", []float32{0, minusZero, 1, -1, greatest, -least}, 0, []int64{0, 0, 0, 0, 0, 0}},
		{"the least spread", []float32{least, -3 * least, 0, 127 * least, 128 * least, 1, -greatest}, least, []int64{1, -3, 0, 127, 127, 127, -127}},
		{"a spread of 2 of the least", []float32{least, 3 * least, 5 * least, -least, -3 * least}, 2 * least, []int64{0, 2, 2, 0, -2}},
		{"the greatest spread", []float32{greatest, -greatest, 1, -least, 2e38}, greatest, []int64{1, -1, 0, 0, 1}},
	} {
		got, ok := impl.CodesOf(c.list, c.spread)
		wantListOk(t, "CodesOf, "+c.name, got, ok, c.want)
	}
}

// The quotients of these are beside the middle of two integers, where some of
// them would not be in 32 bits.
func TestQuotientsHave64Bits(t *testing.T) {
	for _, spread := range []float32{of(0x3f800001), of(0x3fffffff), of(0x3f9abcde)} {
		for whole := range 127 {
			middle := (float64(whole) + 0.5) * float64(spread)
			below, above := impl.NarrowNumber(middle), impl.NarrowNumber(middle)
			for float64(below) >= middle {
				below = impl.NextDown(below)
			}
			for float64(above) <= middle {
				above = impl.NextUp(above)
			}
			got, ok := impl.CodesOf([]float32{below, above, -below, -above}, spread)
			n := int64(whole)
			wantListOk(t, "CodesOf beside a middle", got, ok, []int64{n, n + 1, -n, -n - 1})
			got, ok = impl.CodesBy([]float32{below, above, -below, -above}, spread, filledCodes(4, 128))
			wantListOk(t, "CodesBy beside a middle", got, ok, []int64{n, n + 1, -n, -n - 1})
		}
	}
}

func TestCodesBy(t *testing.T) {
	part := func(count float64) float32 { return float32(count / 256) }
	for _, c := range []struct {
		name    string
		list    []float32
		spread  float32
		chances []int64
		want    []int64
	}{
		{"halves", []float32{127, 1, -63.5, -63.5}, 1, []int64{0, 0, 128, 127}, []int64{127, 1, -64, -63}},
		{"none", nil, 1, nil, nil}, {"none with a spread of 0", nil, 0, nil, nil},
		{"integers", []float32{0, minusZero, 1, -1, 127, -127, 5}, 1, []int64{0, 0, 0, 0, 0, 0, 255}, []int64{0, 0, 1, -1, 127, -127, 5}},
		{"just the chance", []float32{part(1), part(1), part(128), part(128), part(255), part(255)}, 1, []int64{1, 0, 128, 127, 255, 254}, []int64{0, 1, 0, 1, 0, 1}},
		{"just the chance below 0", []float32{part(-1), part(-1), part(-128), part(-128), part(-255), part(-255)}, 1, []int64{255, 254, 128, 127, 1, 0}, []int64{-1, 0, -1, 0, -1, 0}},
		{"just the chance behind an integer", []float32{5 + part(7), 5 + part(7), -5 - part(7), -5 - part(7)}, 1, []int64{7, 6, 249, 248}, []int64{5, 6, -6, -5}},
		{"just the chance with another spread", []float32{3 * part(7), 3 * part(7)}, 3, []int64{7, 6}, []int64{0, 1}},
		{"more than the greatest chance", []float32{part(255.5), part(-0.5), 126 + part(255.5)}, 1, []int64{255, 255, 255}, []int64{1, 0, 127}},
		{"beside the chance", []float32{of(0x3e800001), of(0x3e7fffff), of(0xbe800001), of(0xbe7fffff)}, 1, []int64{64, 63, 191, 192}, []int64{1, 1, 0, 0}},
		{"the other side of it", []float32{of(0x3e800001), of(0x3e7fffff), of(0xbe800001), of(0xbe7fffff)}, 1, []int64{65, 64, 192, 193}, []int64{0, 0, -1, -1}},
		{"a little", []float32{least, least, 1e-30, 1e-30}, 1, []int64{0, 1, 0, 1}, []int64{1, 0, 1, 0}},
		{"a little below, where the difference is rounded to 1", []float32{-least, -1e-30, -1e-20}, 1, []int64{255, 255, 0}, []int64{0, 0, 0}},
		{"behind the last", []float32{126.5, 127.5, 127.5, 128, 1e9, 1e20, greatest}, 1, []int64{0, 0, 255, 0, 0, 255, 0}, []int64{127, 127, 127, 127, 127, 127, 127}},
		{"behind the last below", []float32{-126.5, -126.5, -127.5, -127.5, -128.5, -128, -1e9, -1e20, -greatest}, 1, []int64{0, 128, 0, 255, 0, 0, 255, 0, 255}, []int64{-126, -127, -127, -127, -127, -127, -127, -127, -127}},
		{"a spread of 0", []float32{0, minusZero, 1, -1, greatest, -least}, 0, []int64{0, 255, 0, 0, 128, 0}, []int64{0, 0, 0, 0, 0, 0}},
		{"the least spread", []float32{least, -3 * least, 127 * least, 128 * least, 1, -greatest}, least, []int64{0, 0, 0, 0, 0, 255}, []int64{1, -3, 127, 127, 127, -127}},
		{"a spread of 2 of the least", []float32{least, least, -least, -least}, 2 * least, []int64{127, 128, 127, 128}, []int64{1, 0, 0, -1}},
		{"the greatest spread", []float32{greatest, -greatest, 1, 1, -1}, greatest, []int64{0, 0, 0, 1, 255}, []int64{1, -1, 1, 0, 0}},
		{"a chance for each", []float32{0.5, 0.5, 0.5, 0.5}, 1, []int64{0, 255, 127, 128}, []int64{1, 0, 1, 0}},
	} {
		got, ok := impl.CodesBy(c.list, c.spread, c.chances)
		wantListOk(t, "CodesBy, "+c.name, got, ok, c.want)
	}
}

func TestCodesOfEachLength(t *testing.T) {
	c := chance(320)
	for count := range impl.MaxNumbers + 1 {
		for _, list := range c.coded(count) {
			spread, ok := impl.SpreadOf(list)
			wantNumberOk(t, "SpreadOf", spread, ok, spreadByRule(list))
			for _, spread := range []float32{spread, 0.75, absoluteOf(c.small())} {
				chances := c.chances(count)
				want, wantBy := make([]int64, count), make([]int64, count)
				for i, x := range list {
					want[i], wantBy[i] = codeByRule(x, spread), codeByChance(x, spread, chances[i])
				}
				got, ok := impl.CodesOf(list, spread)
				wantListOk(t, "CodesOf", got, ok, want)
				got, ok = impl.CodesBy(list, spread, chances)
				wantListOk(t, "CodesBy", got, ok, wantBy)
			}
		}
	}
}

func TestCodesOfEachNumberAndSpread(t *testing.T) {
	fine, others := spreads()
	for _, x := range append(edges(), 0.3, -1e-20, 1e20) {
		list := []float32{1, x, -1}
		_, ok := impl.SpreadOf(list)
		wantValue(t, "SpreadOf with a number", ok, isFiniteList(list))
		for _, spread := range fine {
			for _, chance := range []int64{0, 1, 128, 255} {
				got, ok := impl.CodesOf(list, spread)
				gotBy, okBy := impl.CodesBy(list, spread, []int64{0, chance, 255})
				if !isFiniteList(list) {
					wantFailed(t, "CodesOf a number that is not finite", got, ok)
					wantFailed(t, "CodesBy a number that is not finite", gotBy, okBy)
					continue
				}
				wantListOk(t, "CodesOf", got, ok, []int64{codeByRule(1, spread), codeByRule(x, spread), codeByRule(-1, spread)})
				wantListOk(t, "CodesBy", gotBy, okBy, []int64{codeByChance(1, spread, 0), codeByChance(x, spread, chance), codeByChance(-1, spread, 255)})
			}
		}
		for _, spread := range others {
			got, ok := impl.CodesOf(list, spread)
			wantFailed(t, "CodesOf with another spread", got, ok)
			got, ok = impl.CodesBy(list, spread, []int64{0, 0, 0})
			wantFailed(t, "CodesBy with another spread", got, ok)
		}
	}
	for _, spread := range others {
		got, ok := impl.CodesOf(nil, spread)
		wantFailed(t, "CodesOf none with another spread", got, ok)
		got, ok = impl.CodesBy(nil, spread, nil)
		wantFailed(t, "CodesBy none with another spread", got, ok)
	}
}

func TestNumbersThatHaveNoCodes(t *testing.T) {
	for _, x := range []float32{infinity, -infinity, nan, of(0xffc00001), of(0x7f800001)} {
		for _, count := range []int{1, 2, 7, impl.MaxNumbers} {
			for _, place := range []int{0, count / 2, count - 1} {
				list := filled(count, 1)
				list[place] = x
				wantNoCodes(t, "a number that is not finite", list, make([]int64, count))
			}
		}
	}
	for _, count := range []int{impl.MaxNumbers + 1, 1000} {
		wantNoCodes(t, "too many", filled(count, 1), make([]int64, count))
	}
	for _, count := range []int{0, 1, impl.MaxNumbers} {
		_, ok := impl.CodesOf(filled(count, 1), 1)
		wantValue(t, "CodesOf as many as there can be", ok, true)
	}
}

func wantNoCodes(t *testing.T, what string, list []float32, chances []int64) {
	t.Helper()
	spread, ok := impl.SpreadOf(list)
	wantFailed(t, "SpreadOf "+what, spread, ok)
	for _, spread := range []float32{0, 1} {
		codes, ok := impl.CodesOf(list, spread)
		wantFailed(t, "CodesOf "+what, codes, ok)
		codes, ok = impl.CodesBy(list, spread, chances)
		wantFailed(t, "CodesBy "+what, codes, ok)
	}
}

func TestOtherChances(t *testing.T) {
	for _, spread := range []float32{0, 1} {
		for _, count := range []int{0, 1, 2, 100, 255, 256} {
			list := filled(count, 0.5)
			for _, other := range []int{count - 1, count + 1, 2*count + 2, 0, 1} {
				if other < 0 || other == count {
					continue
				}
				codes, ok := impl.CodesBy(list, spread, make([]int64, other))
				wantFailed(t, "CodesBy of another number of chances", codes, ok)
			}
			if count == 0 {
				continue
			}
			for _, chance := range append(anyIntegers(), -2, 253, 254, 257) {
				for _, place := range []int{0, count / 2, count - 1} {
					chances := make([]int64, count)
					chances[place] = chance
					codes, ok := impl.CodesBy(list, spread, chances)
					wantValue(t, "CodesBy of a chance", ok, 0 <= chance && chance <= 255)
					if !ok {
						wantFailed(t, "CodesBy of another chance", codes, ok)
					}
				}
			}
		}
	}
}

func TestNumbersOf(t *testing.T) {
	for _, c := range []struct {
		name   string
		codes  []int64
		spread float32
		want   []float32
	}{
		{"some", []int64{127, -127, 0, 1, -2}, 0.5, []float32{63.5, -63.5, 0, 0.5, -1}},
		{"none", nil, 1, nil}, {"none with a spread of 0", nil, 0, nil},
		{"a spread of 0", []int64{127, -127, 0, 1, -1}, 0, []float32{0, minusZero, 0, 0, minusZero}},
		{"the least spread", []int64{127, -127, 0, 1, -1}, least, []float32{127 * least, -127 * least, 0, least, -least}},
		{"the greatest spread", []int64{127, -127, 0, 1, -1, 2}, greatest, []float32{infinity, -infinity, 0, greatest, -greatest, infinity}},
		{"products that are rounded", []int64{3, -7, 127}, 0.1, []float32{of(0x3e99999a), of(0xbf333333), of(0x414b3333)}},
	} {
		got, ok := impl.NumbersOf(c.codes, c.spread)
		wantNumbersOk(t, "NumbersOf, "+c.name, got, ok, c.want)
	}
	fine, others := spreads()
	for code := int64(-127); code <= 127; code++ {
		for _, spread := range fine {
			got, ok := impl.NumbersOf([]int64{code, -code}, spread)
			wantNumbersOk(t, "NumbersOf", got, ok, []float32{float32(code) * spread, float32(-code) * spread})
		}
	}
	for _, spread := range others {
		for _, codes := range [][]int64{nil, {0}, {1, 2}} {
			got, ok := impl.NumbersOf(codes, spread)
			wantFailed(t, "NumbersOf with another spread", got, ok)
			dot, ok := impl.DotOfCodes(codes, codes, spread, 1)
			wantFailed(t, "DotOfCodes with another first spread", dot, ok)
			dot, ok = impl.DotOfCodes(codes, codes, 1, spread)
			wantFailed(t, "DotOfCodes with another second spread", dot, ok)
		}
	}
}

func TestDotOfCodes(t *testing.T) {
	for _, c := range []struct {
		name          string
		a, b          []int64
		first, second float32
		want          float32
	}{
		{"some", []int64{3, -4}, []int64{5, 2}, 0.5, 2, 7},
		{"one", []int64{-127}, []int64{127}, 1, 1, -16129},
		{"none", nil, nil, 0.5, 2, 0}, {"none with the greatest spreads", nil, []int64{}, greatest, greatest, 0},
		{"the greatest sum", filledCodes(256, 127), filledCodes(256, -127), 1, 1, -4129024},
		{"the greatest sum with spreads", filledCodes(256, 127), filledCodes(256, 127), 0.1, 0.3, of(0x47f1ef5d)},
		{"a sum of 0", []int64{1, -1}, []int64{1, 1}, 3, 4, 0},
		{"codes of 0", []int64{0, 0}, []int64{-127, -1}, 3, 4, 0},
		{"a first spread of 0", []int64{1}, []int64{1}, 0, 4, 0}, {"a first spread of 0 and a sum below", []int64{1}, []int64{-1}, 0, 4, minusZero},
		{"a second spread of 0", []int64{1}, []int64{1}, 4, 0, 0}, {"a second spread of 0 and a sum below", []int64{1}, []int64{-1}, 4, 0, minusZero},
		{"the first one before, which overflows", []int64{2}, []int64{1}, greatest, leastScale, infinity},
		{"the second one behind, which does not", []int64{2}, []int64{1}, leastScale, greatest, of(0x78ffffff)},
		{"an infinity and 0", []int64{2}, []int64{-1}, greatest, 0, nan},
		{"the first one before, which is under the least", []int64{1}, []int64{1}, 1e-30, 1e-30, 0},
		{"spreads whose product is under the least", []int64{127}, []int64{127}, 1e-23, 1e-23, of(0x0000047f)},
		{"products that are rounded", []int64{3}, []int64{1}, 0.1, 0.7, of(0x3e570a3e)},
		{"products in the other order", []int64{3}, []int64{1}, 0.7, 0.1, of(0x3e570a3d)},
	} {
		got, ok := impl.DotOfCodes(c.a, c.b, c.first, c.second)
		wantNumberOk(t, "DotOfCodes, "+c.name, got, ok, c.want)
	}
}

func TestDotOfCodesOfEachLength(t *testing.T) {
	c := chance(321)
	fine, _ := spreads()
	for count := range impl.MaxNumbers + 1 {
		for range 10 {
			a, b := c.codes(count), c.codes(count)
			first, second := fine[c.below(len(fine))], fine[c.below(len(fine))]
			sum := 0.0 // 64-bit numbers have each integer up to this sum
			for i := range a {
				sum += float64(a[i]) * float64(b[i])
			}
			once := float32(float32(sum) * first)
			got, ok := impl.DotOfCodes(a, b, first, second)
			wantNumberOk(t, "DotOfCodes", got, ok, once*second)
			want := make([]float32, count)
			for i := range a {
				want[i] = float32(a[i]) * first
			}
			numbers, ok := impl.NumbersOf(a, first)
			wantNumbersOk(t, "NumbersOf", numbers, ok, want)
			for _, other := range []int{count - 1, count + 1, 0, 2 * count} {
				if other < 0 || other == count {
					continue
				}
				got, ok = impl.DotOfCodes(a, make([]int64, other), first, second)
				wantFailed(t, "DotOfCodes of another length", got, ok)
			}
		}
	}
}

func TestOtherCodes(t *testing.T) {
	for _, n := range append(anyIntegers(), -126, -127, -128, -255, 125, math.MinInt64+1) {
		for _, count := range []int{1, 2, 3, impl.MaxNumbers} {
			for _, place := range []int{0, count / 2, count - 1} {
				codes, valid := filledCodes(count, 1), filledCodes(count, 1)
				codes[place] = n
				isCode := -127 <= n && n <= 127
				numbers, ok := impl.NumbersOf(codes, 1)
				wantValue(t, "NumbersOf a code", ok, isCode)
				left, leftOk := impl.DotOfCodes(codes, valid, 1, 1)
				right, rightOk := impl.DotOfCodes(valid, codes, 1, 1)
				wantValue(t, "DotOfCodes of a code in the first list", leftOk, isCode)
				wantValue(t, "DotOfCodes of a code in the second list", rightOk, isCode)
				if !isCode {
					wantFailed(t, "codes that are none", several{numbers, left, right}, ok)
				}
			}
		}
	}
	for _, count := range []int{impl.MaxNumbers + 1, 1000} {
		for _, codes := range [][]int64{filledCodes(count, 0), filledCodes(count, 127)} {
			numbers, ok := impl.NumbersOf(codes, 1)
			wantFailed(t, "NumbersOf too many", numbers, ok)
			dot, ok := impl.DotOfCodes(codes, codes, 1, 1)
			wantFailed(t, "DotOfCodes of too many", dot, ok)
		}
	}
	numbers, ok := impl.NumbersOf(filledCodes(impl.MaxNumbers, 127), 2)
	wantNumbersOk(t, "NumbersOf the most", numbers, ok, slices.Repeat([]float32{254}, impl.MaxNumbers))
}
