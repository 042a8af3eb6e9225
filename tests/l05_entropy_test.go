package tests

import (
	"math"
	"testing"

	"loop.example/g01157/impl"
)

// Bits that are told have been computed apart from this program, in the
// numbers of another language.
func TestLossEntropy(t *testing.T) {
	four := []float32{1000, 999, 0, 1000}
	eight := []float32{0.5, -1.25, 3, 2.75, -7, 3, 0.125, 1}
	a, b, c := of(0x3ed83a2c), of(0x3e1f1753), of(0x3db861f3)
	for _, c := range []struct {
		name      string
		y         []float32
		label     int64
		loss      float32
		gradients []float32
	}{
		{"two equal ones", []float32{5, 5}, 1, of(0x3f317218), []float32{0.5, -0.5}},
		{"two equal ones, the first label", []float32{5, 5}, 0, of(0x3f317218), []float32{-0.5, 0.5}},
		{"one number", []float32{7}, 0, 0, []float32{0}}, {"one that is -0", []float32{minusZero}, 0, 0, []float32{0}}, {"the least one", []float32{-greatest}, 0, 0, []float32{0}},
		{"three, label 0", []float32{1, 2, 3}, 0, of(0x401a1637), []float32{of(0xbf68f3c2), of(0x3e7a9a1a), of(0x3f2a4d3b)}},
		{"three, label 1", []float32{1, 2, 3}, 1, of(0x3fb42c6e), []float32{c, of(0xbf41597a), of(0x3f2a4d3b)}},
		{"three, label 2", []float32{1, 2, 3}, 2, of(0x3ed0b1ba), []float32{c, of(0x3e7a9a1a), of(0xbeab658a)}},
		{"four, label 0", four, 0, of(0x3f5cabb1), []float32{of(0xbf13e2ea), b, 0, a}},
		{"four, label 1", four, 1, of(0x3fee55d8), []float32{a, of(0xbf583a2b), 0, a}},
		{"four, label 2", four, 2, of(0x447a372b), []float32{a, b, -1, a}},
		{"four, label 3", four, 3, of(0x3f5cabb1), []float32{a, b, 0, of(0xbf13e2ea)}},
		{"eight, label 4", eight, 4, of(0x4131ee51), []float32{of(0x3cdb4105), of(0x3b98670c), of(0x3ea6f0f7), of(0x3e820395), of(0xbf7fff08), of(0x3ea6f0f7), of(0x3c96b0e0), of(0x3d34be8e)}},
		{"eight, label 2", eight, 2, of(0x3f8f7286), []float32{of(0x3cdb4105), of(0x3b98670c), of(0xbf2c8784), of(0x3e820395), of(0x37785a49), of(0x3ea6f0f7), of(0x3c96b0e0), of(0x3d34be8e)}},
		{"eight equal ones", filled(8, 2), 7, of(0x40051592), append(filled(7, 0.125), -0.875)},
		{"great ones, of which m is taken first", []float32{16777216, 16777215}, 1, of(0x3fa818f5), []float32{of(0x3f3b26a8), of(0xbf3b26a8)}},
		{"the greatest gap", []float32{greatest, -greatest}, 1, infinity, []float32{1, -1}}, {"the greatest label", []float32{greatest, -greatest}, 0, 0, []float32{0, 0}},
		{"a share that is lost", []float32{0, 300, 0}, 2, 300, []float32{0, 1, -1}},
		{"an infinity first", []float32{infinity, 1}, 1, nan, []float32{nan, nan}}, {"an infinity last", []float32{1, 2, infinity}, 0, nan, filled(3, nan)},
		{"an infinity between", []float32{1, infinity, 2}, 1, nan, filled(3, nan)}, {"an infinity alone", []float32{infinity}, 0, nan, []float32{nan}},
		{"-infinity first", []float32{-infinity, 1}, 0, infinity, []float32{-1, 1}}, {"-infinity beside", []float32{-infinity, 1}, 1, 0, []float32{0, 0}},
		{"-infinity last", []float32{4, 4, -infinity}, 2, infinity, []float32{0.5, 0.5, -1}}, {"-infinity between", []float32{4, -infinity, 4}, 0, of(0x3f317218), []float32{-0.5, 0, 0.5}},
		{"-infinity alone", []float32{-infinity}, 0, nan, []float32{nan}}, {"both infinities", []float32{infinity, -infinity}, 1, nan, []float32{nan, nan}},
		{"a not-a-number first", []float32{nan, 1, 2}, 2, nan, filled(3, nan)}, {"one between", []float32{1, nan, 2}, 0, nan, filled(3, nan)},
		{"one last", []float32{1, 2, of(0xff800001)}, 1, nan, filled(3, nan)}, {"one as label", []float32{1, nan, 2}, 1, nan, filled(3, nan)},
		{"one behind -infinity", []float32{-infinity, nan, 1}, 2, nan, filled(3, nan)},
	} {
		loss, gradients, ok := impl.LossEntropy(c.y, c.label)
		wantLossOk(t, "LossEntropy of "+c.name, loss, gradients, ok, c.loss, c.gradients)
	}
}

func TestLossEntropyOfEachLabel(t *testing.T) {
	c := chance(210)
	for size := 1; size <= impl.MaxSize; size++ {
		for range 60 {
			for _, y := range c.lists(size) {
				for label := range size {
					wantLoss, want := entropyByRule(y, label)
					loss, gradients, ok := impl.LossEntropy(y, int64(label))
					wantLossOk(t, "LossEntropy", loss, gradients, ok, wantLoss, want)
				}
			}
		}
	}
}

func TestLossEntropyHasTheSharesOfSoftmax(t *testing.T) {
	for _, c := range softmaxCases() {
		for label := range c[0] {
			want := append([]float32{}, c[1]...)
			want[label] = want[label] - 1
			_, gradients, ok := impl.LossEntropy(c[0], int64(label))
			wantNumbersOk(t, "the gradients of LossEntropy", gradients, ok, want)
		}
	}
}

func TestOtherLabelsOfLossEntropy(t *testing.T) {
	labels := append(anyIntegers(), 3, 4, 5, 6, 7, 8, 9, -2)
	for size := range 12 {
		for _, label := range labels {
			loss, gradients, ok := impl.LossEntropy(filled(size, 1), label)
			if 1 <= size && size <= impl.MaxSize && 0 <= label && label < int64(size) {
				wantValue(t, "LossEntropy: success", ok, true)
				wantValue(t, "LossEntropy: gradients", len(gradients), size)
				continue
			}
			wantFailed(t, "LossEntropy with another label or length", several{loss, gradients}, ok)
		}
	}
	for _, label := range []int64{0, 1, -1, 256, math.MaxInt64, math.MinInt64} {
		loss, gradients, ok := impl.LossEntropy(nil, label)
		wantFailed(t, "LossEntropy of none", several{loss, gradients}, ok)
		loss, gradients, ok = impl.LossEntropy(filled(1000, 1), label)
		wantFailed(t, "LossEntropy of too many", several{loss, gradients}, ok)
	}
}
