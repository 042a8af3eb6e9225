package tests

import (
	"fmt"
	"math"
	"testing"

	"loop.example/g01157/impl"
)

type (
	lossCall func(y, target []float32) (float32, []float32, bool)
	lossRule func(y, target []float32) (float32, []float32)
)

// targetLoss is a loss with a target, and the text of the document for it.
type targetLoss struct {
	call lossCall
	rule lossRule
}

func bends() []float32 {
	return []float32{1, 0.3, 2.5, 0, minusZero, -1.5, infinity, -infinity, nan, of(0xffc00001), least, greatest, -greatest}
}

func targetLosses() map[string]targetLoss {
	losses := map[string]targetLoss{
		"LossSquares":  {impl.LossSquares, squaresByRule},
		"LossAbsolute": {impl.LossAbsolute, absoluteByRule},
	}
	for _, bend := range bends() {
		losses[fmt.Sprintf("LossHuber with the bend %08x", math.Float32bits(bend))] = targetLoss{
			func(y, target []float32) (float32, []float32, bool) { return impl.LossHuber(y, target, bend) },
			func(y, target []float32) (float32, []float32) { return huberByRule(y, target, bend) },
		}
	}
	return losses
}

func gapsByRule(y, target []float32) []float32 {
	d := make([]float32, len(y))
	for i := range d {
		d[i] = y[i] - target[i]
	}
	return d
}

func absoluteOf(x float32) float32 { return float32(math.Abs(float64(x))) }

func squaresByRule(y, target []float32) (float32, []float32) {
	d, n := gapsByRule(y, target), float32(len(y))
	gradients := make([]float32, len(d))
	for i := range d {
		twice := d[i] + d[i]
		gradients[i] = twice / n
	}
	return dotByRule(d, d) / n, gradients
}

func absoluteByRule(y, target []float32) (float32, []float32) {
	d, n := gapsByRule(y, target), float32(len(y))
	sizes, gradients := make([]float32, len(d)), make([]float32, len(d))
	for i := range d {
		sizes[i] = absoluteOf(d[i])
		switch {
		case d[i] > 0:
			gradients[i] = 1 / n
		case d[i] < 0:
			gradients[i] = -1 / n
		case isNan(d[i]):
			gradients[i] = nan
		}
	}
	return sumByRule(sizes) / n, gradients
}

func huberByRule(y, target []float32, bend float32) (float32, []float32) {
	d, n := gapsByRule(y, target), float32(len(y))
	parts, gradients := make([]float32, len(d)), make([]float32, len(d))
	for i := range d {
		size, half := absoluteOf(d[i]), float32(bend/2)
		rest := float32(size - half)
		switch {
		case size <= bend:
			square := float32(d[i] * d[i])
			parts[i], gradients[i] = square/2, d[i]/n
		case d[i] > 0:
			parts[i], gradients[i] = bend*rest, bend/n
		default:
			parts[i], gradients[i] = bend*rest, -bend/n
		}
	}
	return sumByRule(parts) / n, gradients
}

// entropyByRule goes back from the shares of softmaxByRule only for the
// gradients.
func entropyByRule(y []float32, label int) (float32, []float32) {
	m := y[0]
	for _, x := range y {
		if x > m {
			m = x
		}
	}
	var s float32
	for _, x := range y {
		s = s + impl.ExpNumber(x-m)
	}
	gradients := softmaxByRule(y)
	gradients[label] = gradients[label] - 1
	rest := y[label] - m
	return impl.LogNumber(s) - rest, gradients
}

func wantLossOk(t *testing.T, what string, loss float32, gradients []float32, ok bool, wantLoss float32, want []float32) {
	t.Helper()
	wantNumberOk(t, what+": loss", loss, ok, wantLoss)
	wantNumbersOk(t, what+": gradients", gradients, ok, want)
}

// anyList has the numbers of edges, and in between those of any bits.
func (c *chance) anyList(count int) []float32 { return c.anyTensor(1, int64(count)).Data }

// mixedList has small numbers, and here and there one of edges.
func (c *chance) mixedList(count int) []float32 {
	list := c.smallList(count)
	for i := range list {
		if c.below(8) == 0 {
			list[i] = c.anyList(1)[0]
		}
	}
	return list
}

// lists has lists of count numbers of each sort, also one of equal numbers.
func (c *chance) lists(count int) [][]float32 {
	return [][]float32{c.smallList(count), c.smallList(count), c.mixedList(count), c.anyList(count), filled(count, c.small())}
}
