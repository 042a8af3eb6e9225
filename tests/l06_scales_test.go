package tests

import (
	"testing"

	"loop.example/g01157/impl"
)

func TestConstantsOfChapter6(t *testing.T) {
	wantValue(t, "MaxGrow", impl.MaxGrow, 1000)
	wantValue(t, "MaxGood", impl.MaxGood, 1000)
	wantValue(t, "MostScale", impl.MostScale, 16777216)
}

func TestValidScale(t *testing.T) {
	for _, scale := range scales() {
		for _, good := range []int64{0, 1, 2, 500, 999, 1000} {
			for _, grow := range []int64{1, 2, 500, 999, 1000} {
				wantValue(t, "ValidScale", impl.ValidScale(lossScale(scale, good, grow)), true)
			}
		}
	}
	for _, s := range otherLossScales() {
		wantValue(t, "ValidScale of another one", impl.ValidScale(s), false)
	}
	for _, n := range anyIntegers() {
		wantValue(t, "ValidScale with a number Good", impl.ValidScale(lossScale(1, n, 1)), 0 <= n && n <= 1000)
		wantValue(t, "ValidScale with a number Grow", impl.ValidScale(lossScale(1, 0, n)), 1 <= n && n <= 1000)
	}
	for _, x := range edges() {
		wantValue(t, "ValidScale with a number Scale", impl.ValidScale(lossScale(x, 0, 1)), x >= 0.00006103515625 && x <= 16777216)
	}
}

func TestNextScale(t *testing.T) {
	for _, c := range []struct {
		name   string
		s      impl.LossScale
		finite bool
		want   impl.LossScale
	}{
		{"one before Grow", lossScale(1024, 1, 2), true, lossScale(2048, 0, 2)},
		{"two before Grow", lossScale(1024, 0, 2), true, lossScale(1024, 1, 2)},
		{"at Grow", lossScale(1024, 2, 2), true, lossScale(2048, 0, 2)},
		{"behind Grow", lossScale(1024, 7, 2), true, lossScale(2048, 0, 2)},
		{"a Grow of 1", lossScale(3, 0, 1), true, lossScale(6, 0, 1)},
		{"a Good of MaxGood", lossScale(1024, 1000, 1000), true, lossScale(2048, 0, 1000)},
		{"a Good of MaxGood behind Grow", lossScale(1024, 1000, 1), true, lossScale(2048, 0, 1)},
		{"one before MaxGood", lossScale(1024, 999, 1000), true, lossScale(2048, 0, 1000)},
		{"two before MaxGood", lossScale(1024, 998, 1000), true, lossScale(1024, 999, 1000)},
		{"one before MaxGood at Grow", lossScale(1024, 999, 999), true, lossScale(2048, 0, 999)},
		{"MostScale", lossScale(mostScale, 0, 1), true, lossScale(mostScale, 0, 1)},
		{"MostScale not yet", lossScale(mostScale, 1, 3), true, lossScale(mostScale, 2, 3)},
		{"just below MostScale", lossScale(of(0x4b7fffff), 0, 1), true, lossScale(mostScale, 0, 1)},
		{"just above half of it", lossScale(8388609, 4, 5), true, lossScale(mostScale, 0, 5)},
		{"half of it", lossScale(8388608, 4, 5), true, lossScale(mostScale, 0, 5)},
		{"just below half of it", lossScale(8388607.5, 4, 5), true, lossScale(16777215, 0, 5)},
		{"the least scale, finite", lossScale(leastScale, 0, 1), true, lossScale(2*leastScale, 0, 1)},
		{"not finite", lossScale(1024, 1, 2), false, lossScale(512, 0, 2)},
		{"not finite, no power of 2", lossScale(3, 4, 5), false, lossScale(1.5, 0, 5)},
		{"not finite at Grow", lossScale(3, 5, 5), false, lossScale(1.5, 0, 5)},
		{"not finite with MaxGood", lossScale(3, 1000, 1000), false, lossScale(1.5, 0, 1000)},
		{"not finite without Good", lossScale(3, 0, 1), false, lossScale(1.5, 0, 1)},
		{"not finite with MostScale", lossScale(mostScale, 0, 1), false, lossScale(8388608, 0, 1)},
		{"not finite with the least scale", lossScale(leastScale, 3, 5), false, lossScale(leastScale, 0, 5)},
		{"not finite just above it", lossScale(of(0x38800001), 3, 5), false, lossScale(leastScale, 0, 5)},
		{"not finite just below twice it", lossScale(of(0x38ffffff), 3, 5), false, lossScale(leastScale, 0, 5)},
		{"not finite with twice it", lossScale(of(0x39000000), 3, 5), false, lossScale(leastScale, 0, 5)},
		{"not finite just above twice it", lossScale(of(0x39000001), 3, 5), false, lossScale(of(0x38800001), 0, 5)},
	} {
		got, ok := impl.NextScale(c.s, c.finite)
		wantOk(t, "NextScale, "+c.name, got, ok, c.want)
	}
}

func TestNextScaleOfEachGood(t *testing.T) {
	c := chance(300)
	for good := range int64(impl.MaxGood + 1) {
		for _, grow := range []int64{1, 2, 3, 500, good, good + 1, good + 2, 999, 1000, int64(1 + c.below(1000))} {
			grow = max(1, min(grow, 1000))
			for _, scale := range append(scales(), c.anyScale(), c.anyScale()) {
				for _, finite := range []bool{false, true} {
					s := lossScale(scale, good, grow)
					got, ok := impl.NextScale(s, finite)
					wantOk(t, "NextScale", got, ok, nextByRule(s, finite))
					wantValue(t, "ValidScale of NextScale", impl.ValidScale(got), true)
				}
			}
		}
	}
	for _, s := range otherLossScales() {
		for _, finite := range []bool{false, true} {
			got, ok := impl.NextScale(s, finite)
			wantFailed(t, "NextScale of another one", got, ok)
		}
	}
}

// A loss scale grows up to MostScale, and goes back to the least scale.
func TestNextScaleOneAfterAnother(t *testing.T) {
	s := lossScale(leastScale, 0, 3)
	for step := range 3 * 38 {
		next, ok := impl.NextScale(s, true)
		wantValue(t, "NextScale: success", ok, true)
		wantValue(t, "a third step doubles", next.Scale == 2*s.Scale, step%3 == 2)
		s = next
	}
	wantValue(t, "the greatest scale", s, lossScale(mostScale, 0, 3))
	for range 38 {
		s, _ = impl.NextScale(s, false)
	}
	wantValue(t, "the least scale", s, lossScale(leastScale, 0, 3))
}
