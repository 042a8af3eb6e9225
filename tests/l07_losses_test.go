package tests

import (
	"fmt"
	"math"
	"slices"
	"testing"

	"loop.example/g01157/impl"
)

// isLessByRule has no not-a-number on either side.
func isLessByRule(a, b float32) bool { return !isNan(a) && !isNan(b) && float64(a) < float64(b) }

// isLessThanAll reports whether x is less than each one of a list.
func isLessThanAll(x float32, list []float32) bool {
	return !slices.ContainsFunc(list, func(other float32) bool { return !isLessByRule(x, other) })
}

// bestByRule is the text of the document; it has -1 if there is no index.
func bestByRule(losses []float32) int64 {
	for i, x := range losses {
		isLess := func(other float32) bool { return isLessByRule(other, x) }
		if !isNan(x) && !slices.ContainsFunc(losses, isLess) {
			return int64(i)
		}
	}
	return -1
}

// stopByRule is the text of the document; it has -1 if there is no index.
func stopByRule(losses []float32, patience int) int64 {
	for i := range losses {
		before := i - patience
		if before < 0 {
			continue
		}
		isBetter := func(x float32) bool { return isLessThanAll(x, losses[:before+1]) }
		if !slices.ContainsFunc(losses[before+1:i+1], isBetter) {
			return int64(i)
		}
	}
	return -1
}

func wantIndex(t *testing.T, what string, got int64, ok bool, want int64) {
	t.Helper()
	if want < 0 {
		wantFailure(t, what, got, ok)
		return
	}
	wantOk(t, what, got, ok, want)
}

func TestBestStepOfToldLosses(t *testing.T) {
	for _, c := range []struct {
		name   string
		losses []float32
		want   int64
	}{
		{"no losses", nil, -1},
		{"an empty list", []float32{}, -1},
		{"one", []float32{3}, 0},
		{"the first", []float32{1, 2, 3}, 0},
		{"the last", []float32{3, 2, 1}, 2},
		{"one between others", []float32{3, 1, 2}, 1},
		{"equal ones", []float32{3, 1, 2, 1}, 1},
		{"all equal", []float32{2, 2, 2}, 0},
		{"both zeros", []float32{1, 0, minusZero}, 1},
		{"both zeros around", []float32{1, minusZero, 0}, 1},
		{"negative ones", []float32{-1, -3, -2}, 1},
		{"neighbours", []float32{of(0x3f800001), 1, of(0x3f7fffff)}, 2},
		{"a not-a-number first", []float32{nan, 3, 2}, 2},
		{"a not-a-number first and the best one behind it", []float32{nan, 2, 3}, 1},
		{"a not-a-number last", []float32{3, 2, nan}, 1},
		{"a not-a-number between others", []float32{2, nan, 1}, 2},
		{"a not-a-number behind the best one", []float32{1, nan, 2}, 0},
		{"not-a-numbers between others", []float32{nan, 5, nan, of(0xffc00000), 4, nan}, 4},
		{"a not-a-number alone", []float32{nan}, -1},
		{"all not-a-numbers", []float32{nan, of(0xffc00000), of(0x7f800001)}, -1},
		{"an infinity alone", []float32{infinity}, 0},
		{"an infinity and a not-a-number", []float32{nan, infinity}, 1},
		{"an infinity and a number", []float32{infinity, greatest}, 1},
		{"infinities", []float32{infinity, infinity}, 0},
		{"both infinities", []float32{infinity, -greatest, -infinity, 0}, 2},
		{"two infinities below", []float32{3, -infinity, -infinity}, 1},
	} {
		got, ok := impl.BestStep(c.losses)
		wantIndex(t, "BestStep, "+c.name, got, ok, c.want)
	}
}

func TestStopAtOfToldLosses(t *testing.T) {
	for _, c := range []struct {
		name     string
		losses   []float32
		patience int64
		want     int64
	}{
		{"no losses", nil, 1, -1},
		{"one loss", []float32{1}, 1, -1},
		{"two that become less", []float32{2, 1}, 1, -1},
		{"two equal ones", []float32{2, 2}, 1, 1},
		{"two that become greater", []float32{2, 3}, 1, 1},
		{"less at last", []float32{2, 3, 1}, 2, -1},
		{"not less for two", []float32{2, 3, 2}, 2, 2},
		{"less than the last one, but not than all", []float32{1, 3, 2}, 2, 2},
		{"less at first", []float32{3, 1, 1, 2}, 2, 3},
		{"less at first and at last", []float32{3, 1, 1, 0.5}, 2, -1},
		{"the least index", []float32{3, 2, 2, 2, 2, 2}, 2, 3},
		{"always less", []float32{5, 4, 3, 2, 1}, 1, -1},
		{"always less and at last equal", []float32{5, 4, 3, 2, 2}, 1, 4},
		{"as many losses as patience", []float32{1, 2, 3}, 3, -1},
		{"one loss more than patience", []float32{1, 2, 3, 4}, 3, 3},
		{"more patience than losses", []float32{1, 2, 3}, 4, -1},
		{"the most patience", []float32{1, 2, 3}, impl.MaxNumbers, -1},
		{"both zeros", []float32{0, minusZero}, 1, 1},
		{"both zeros around", []float32{minusZero, 0}, 1, 1},
		{"a not-a-number first", []float32{nan, 3, 2, 1}, 1, 1},
		{"a not-a-number first and more patience", []float32{nan, 3, 2, 1}, 3, 3},
		{"a not-a-number first and less than all others", []float32{nan, -infinity}, 1, 1},
		{"a not-a-number last", []float32{3, 2, nan}, 1, 2},
		{"a not-a-number last and more patience", []float32{3, 2, nan}, 2, -1},
		{"a not-a-number between others", []float32{3, nan, 2}, 1, 1},
		{"a not-a-number and a less one within the patience", []float32{3, nan, 2}, 2, -1},
		{"a not-a-number and then less ones", []float32{3, nan, 2, 1}, 2, 3},
		{"a not-a-number and then less ones for long", []float32{4, nan, 3, 2, 1}, 3, 4},
		{"not-a-numbers alone", []float32{nan, of(0xffc00000), nan}, 2, 2},
		{"one not-a-number", []float32{nan}, 1, -1},
		{"an infinity and then less", []float32{infinity, greatest}, 1, -1},
		{"two infinities", []float32{infinity, infinity}, 1, 1},
		{"an infinity behind a number", []float32{1, infinity}, 1, 1},
		{"an infinity below first", []float32{-infinity, -greatest, -infinity}, 2, 2},
		{"an infinity below at last", []float32{1, 2, -infinity}, 2, -1},
		{"an infinity and a not-a-number", []float32{infinity, nan}, 1, 1},
		{"no patience", []float32{1, 2, 3}, 0, -1},
		{"less than no patience", []float32{1, 2, 3}, -1, -1},
	} {
		got, ok := impl.StopAt(c.losses, c.patience)
		wantIndex(t, "StopAt, "+c.name, got, ok, c.want)
	}
}

// someLosses has losses of each sort: with many bits, with not-a-numbers and
// infinities, those that become less with exceptions, and a few numbers that
// come often.
func (c *chance) someLosses(count int) [][]float32 {
	falling, few := make([]float32, count), make([]float32, count)
	for i := range count {
		falling[i] = float32(count - i - c.below(1+c.below(9)))
		few[i] = []float32{nan, infinity, -infinity, 0, minusZero, 1, 2, 3}[c.below(2+c.below(7))]
	}
	rare := slices.Clone(falling)
	if count > 0 {
		rare[c.below(count)] = nan
	}
	return append(c.lists(count), falling, few, rare)
}

func TestLossesByRule(t *testing.T) {
	c := chance(440)
	for count := range 40 {
		for range 5 {
			for _, losses := range c.someLosses(count) {
				best, ok := impl.BestStep(losses)
				wantIndex(t, fmt.Sprintf("BestStep of %v", losses), best, ok, bestByRule(losses))
				for patience := 1; patience <= count+2; patience++ {
					at, ok := impl.StopAt(losses, int64(patience))
					wantIndex(t, fmt.Sprintf("StopAt of %v with %d", losses, patience), at, ok, stopByRule(losses, patience))
				}
			}
		}
	}
}

func TestLossesOfTheMostNumbers(t *testing.T) {
	falling := make([]float32, impl.MaxNumbers)
	for i := range falling {
		falling[i] = float32(-i)
	}
	best, ok := impl.BestStep(falling)
	wantOk(t, "BestStep of MaxNumbers losses", best, ok, impl.MaxNumbers-1)
	for patience := int64(1); patience <= impl.MaxNumbers; patience++ {
		at, ok := impl.StopAt(falling, patience)
		wantFailure(t, "StopAt of MaxNumbers losses that become less", at, ok)
		at, ok = impl.StopAt(filled(impl.MaxNumbers, 7), patience)
		want := patience
		if patience == impl.MaxNumbers {
			want = -1
		}
		wantIndex(t, "StopAt of MaxNumbers equal losses", at, ok, want)
	}
	for _, list := range [][]float32{append(falling, 1), filled(impl.MaxNumbers+1, 1), filled(impl.MaxNumbers+1, nan), filled(1000, 2)} {
		best, ok := impl.BestStep(list)
		wantFailure(t, "BestStep of more losses", best, ok)
		for _, patience := range []int64{0, 1, 2, impl.MaxNumbers, impl.MaxNumbers + 1} {
			at, ok := impl.StopAt(list, patience)
			wantFailure(t, "StopAt of more losses", at, ok)
		}
	}
}

func TestStopAtWithOtherPatience(t *testing.T) {
	for _, patience := range []int64{0, -1, -2, impl.MaxNumbers + 1, impl.MaxNumbers + 2, 1 << 32, 1<<32 + 1, math.MaxInt64, math.MaxInt64 - 1, math.MinInt64, math.MinInt64 + 1} {
		for _, count := range []int{0, 1, 2, 3, impl.MaxNumbers - 1, impl.MaxNumbers} {
			for _, x := range []float32{1, nan, infinity} {
				at, ok := impl.StopAt(filled(count, x), patience)
				wantFailure(t, "StopAt with the patience "+impl.Decimal(patience), at, ok)
			}
		}
	}
}
