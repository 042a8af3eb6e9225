package tests

import (
	"math"
	"testing"

	"loop.example/g01157/impl"
)

type lossCase struct {
	name      string
	y, target []float32
	loss      float32
	gradients []float32
}

func checkLossCases(t *testing.T, name string, call lossCall, cases []lossCase) {
	t.Helper()
	for _, c := range cases {
		loss, gradients, ok := call(c.y, c.target)
		wantLossOk(t, name+" of "+c.name, loss, gradients, ok, c.loss, c.gradients)
	}
}

// Bits that are told have been computed apart from this program, in 32-bit
// numbers of another language.
func TestLossSquares(t *testing.T) {
	third := of(0x3eaaaaab)
	checkLossCases(t, "LossSquares", impl.LossSquares, []lossCase{
		{"the example", []float32{1, 3}, []float32{0, 1}, 2.5, []float32{1, 2}},
		{"one number", []float32{5}, []float32{3}, 4, []float32{4}},
		{"a target above", []float32{3}, []float32{5}, 4, []float32{-4}},
		{"told bits", []float32{0.1, -0.2, 0.35}, []float32{0.3, 0.7, -1.1}, of(0x3f7bf259), []float32{of(0xbe088889), of(0xbf199999), of(0x3f777778)}},
		{"five with told bits", []float32{4, -1.5, 0.25, 7.3, -2.2}, []float32{3.9, -1.4, 0.25, -1, 9}, of(0x421b7ae1), []float32{of(0x3d23d700), of(0xbd23d70d), 0, of(0x40547ae2), of(0xc08f5c29)}},
		{"a great gap first", []float32{4096, 1, 1}, filled(3, 0), of(0x4aaaaaab), []float32{of(0x452aaaab), 2 * third, 2 * third}},
		{"a great gap last", []float32{1, 1, 4096}, filled(3, 0), of(0x4aaaaaac), []float32{2 * third, 2 * third, of(0x452aaaab)}},
		{"a square that is rounded before the sum", []float32{1, 4097}, filled(2, 0), 8392704, []float32{1, 4097}},
		{"gaps of 0", []float32{1, 0, minusZero, 0, minusZero}, []float32{1, 0, minusZero, minusZero, 0}, 0, []float32{0, 0, 0, 0, minusZero}},
		{"a gap under the least", []float32{least}, []float32{0}, 0, []float32{2 * least}},
		{"twice the least of two", []float32{least, 0}, []float32{0, 0}, 0, []float32{least, 0}},
		{"twice the greatest of two", []float32{greatest, 0}, []float32{0, 0}, infinity, []float32{infinity, 0}},
		{"a square over the greatest", []float32{-1e30, 1}, []float32{0, 0}, infinity, []float32{-1e30, 1}},
		{"a gap over the greatest", []float32{greatest}, []float32{-greatest}, infinity, []float32{infinity}},
		{"an infinity", []float32{infinity, 1}, []float32{0, 1}, infinity, []float32{infinity, 0}},
		{"an infinite target", []float32{1, 1}, []float32{infinity, 0}, infinity, []float32{-infinity, 1}},
		{"the same infinity", []float32{infinity, 2}, []float32{infinity, 0}, nan, []float32{nan, 2}},
		{"the same infinity below", []float32{-infinity, 2}, []float32{-infinity, 0}, nan, []float32{nan, 2}},
		{"both infinities", []float32{infinity, -infinity}, []float32{-infinity, infinity}, infinity, []float32{infinity, -infinity}},
		{"a not-a-number", []float32{2, of(0xff800001)}, []float32{0, 0}, nan, []float32{2, nan}},
		{"a target that is none", []float32{2, 1}, []float32{0, nan}, nan, []float32{2, nan}},
	})
}

func TestLossAbsolute(t *testing.T) {
	const big = 16777216 // its next greater number is 2 away
	third, fifth := of(0x3eaaaaab), of(0x3e4ccccd)
	checkLossCases(t, "LossAbsolute", impl.LossAbsolute, []lossCase{
		{"two", []float32{1, 3}, []float32{2, 1}, 1.5, []float32{-0.5, 0.5}},
		{"one number", []float32{5}, []float32{3}, 2, []float32{1}},
		{"a target above", []float32{3}, []float32{5}, 2, []float32{-1}},
		{"told bits", []float32{0.1, -0.2, 0.35}, []float32{0.3, 0.7, -1.1}, of(0x3f59999b), []float32{-third, -third, third}},
		{"five with told bits", []float32{4, -1.5, 0.25, 7.3, -2.2}, []float32{3.9, -1.4, 0.25, -1, 9}, of(0x407c28f6), []float32{fifth, -fifth, 0, fifth, -fifth}},
		{"a great gap first", []float32{big, 1, 1}, filled(3, 0), of(0x4aaaaaab), []float32{third, third, third}},
		{"a great gap last", []float32{1, 1, -big}, filled(3, 0), of(0x4aaaaaac), []float32{third, third, -third}},
		{"gaps of 0", []float32{1, 0, minusZero, 0, minusZero}, []float32{1, 0, minusZero, minusZero, 0}, 0, filled(5, 0)},
		{"one gap of -0", []float32{minusZero}, []float32{0}, 0, []float32{0}},
		{"the least gaps", []float32{least, -least}, []float32{0, 0}, least, []float32{0.5, -0.5}},
		{"a gap over the greatest", []float32{-greatest, 0}, []float32{greatest, 0}, infinity, []float32{-0.5, 0}},
		{"a sum over the greatest", []float32{greatest, -greatest}, []float32{0, 0}, infinity, []float32{0.5, -0.5}},
		{"an infinity", []float32{infinity, 1}, []float32{0, 1}, infinity, []float32{0.5, 0}},
		{"an infinite target", []float32{1, 1}, []float32{infinity, 0}, infinity, []float32{-0.5, 0.5}},
		{"the same infinity", []float32{infinity, 2}, []float32{infinity, 0}, nan, []float32{nan, 0.5}},
		{"the same infinity below", []float32{-infinity, 2}, []float32{-infinity, 3}, nan, []float32{nan, -0.5}},
		{"a not-a-number", []float32{2, of(0xff800001)}, []float32{0, 0}, nan, []float32{0.5, nan}},
		{"a target that is none", []float32{2, 1}, []float32{0, nan}, nan, []float32{0.5, nan}},
	})
}

// huberWith is LossHuber with one bend.
func huberWith(bend float32) lossCall {
	return func(y, target []float32) (float32, []float32, bool) { return impl.LossHuber(y, target, bend) }
}

func TestLossHuber(t *testing.T) {
	five, targets := []float32{4, -1.5, 0.25, 7.3, -2.2}, []float32{3.9, -1.4, 0.25, -1, 9}
	checkLossCases(t, "LossHuber with 0.3", huberWith(0.3), []lossCase{
		{"told bits", five, targets, of(0x3f93b646), []float32{of(0x3ca3d700), of(0xbca3d70d), 0, of(0x3d75c290), of(0xbd75c290)}},
	})
	three, targets := []float32{0.1, -0.2, 0.35}, []float32{0.3, 0.7, -1.1}
	checkLossCases(t, "LossHuber with 0.5", huberWith(0.5), []lossCase{
		{"told bits", three, targets, of(0x3ea147af), []float32{of(0xbd888889), of(0xbe2aaaab), of(0x3e2aaaab)}},
	})
	checkLossCases(t, "LossHuber with 1.1", huberWith(1.1), []lossCase{
		{"told bits", three, targets, of(0x3ef17e4c), []float32{of(0xbd888889), of(0xbe999999), of(0x3ebbbbbc)}},
	})
	checkLossCases(t, "LossHuber with 2", huberWith(2), []lossCase{
		{"two", []float32{1, 4}, []float32{0, 0}, 3.25, []float32{0.5, 1}},
		{"two below", []float32{0, 0}, []float32{1, 4}, 3.25, []float32{-0.5, -1}},
		{"one number", []float32{3}, []float32{0}, 4, []float32{2}},
		{"gaps of 0", []float32{0, minusZero, 0, minusZero}, []float32{0, minusZero, minusZero, 0}, 0, []float32{0, 0, 0, minusZero}},
		{"an infinity", []float32{infinity, -infinity}, []float32{0, 0}, infinity, []float32{1, -1}},
		{"the same infinity", []float32{infinity, 1}, []float32{infinity, 0}, nan, []float32{-1, 0.5}},
		{"a not-a-number", []float32{1, nan}, []float32{0, 0}, nan, []float32{0.5, -1}},
		{"a line over the greatest", []float32{greatest}, []float32{0}, infinity, []float32{2}},
	})
}

func TestBendsOfLossHuber(t *testing.T) {
	for _, c := range []struct {
		name                      string
		gap, bend, loss, gradient float32
	}{
		{"+0 and no gap", 0, 0, 0, 0}, {"+0 and a gap of -0", minusZero, 0, 0, minusZero},
		{"+0 and a gap", 3, 0, 0, 0}, {"+0 and a gap below", -3, 0, 0, minusZero}, {"+0 and an infinity", infinity, 0, nan, 0},
		{"-0 and no gap", 0, minusZero, 0, 0}, {"-0 and a gap of -0", minusZero, minusZero, 0, minusZero},
		{"-0 and a gap", 3, minusZero, 0, minusZero}, {"-0 and a gap below", -3, minusZero, 0, 0},
		{"-1 and no gap", 0, -1, -0.5, 1}, {"-1 and a gap of -0", minusZero, -1, -0.5, 1},
		{"-1 and a gap", 2, -1, -2.5, -1}, {"-1 and a gap below", -2, -1, -2.5, 1}, {"-1 and a gap of 1", 1, -1, -1.5, -1},
		{"-1 and an infinity", infinity, -1, -infinity, -1}, {"-1 and a not-a-number", nan, -1, nan, 1},
		{"infinity and a gap", 3, infinity, 4.5, 3}, {"infinity and an infinity", infinity, infinity, infinity, infinity},
		{"infinity and one below", -infinity, infinity, infinity, -infinity}, {"infinity and a not-a-number", nan, infinity, nan, -infinity},
		{"-infinity and no gap", 0, -infinity, -infinity, infinity}, {"-infinity and a gap", 3, -infinity, -infinity, -infinity},
		{"-infinity and an infinity", infinity, -infinity, -infinity, -infinity}, {"-infinity and a not-a-number", nan, -infinity, nan, infinity},
		{"a not-a-number and no gap", 0, nan, nan, nan}, {"a not-a-number and a gap", 3, nan, nan, nan}, {"a not-a-number alone", nan, nan, nan, nan},
		// At the bend, the square is over the greatest, where the line is not.
		{"2.6e19 and a gap at it", 2.6e19, 2.6e19, infinity, 2.6e19}, {"2.6e19 and one at it below", -2.6e19, 2.6e19, infinity, -2.6e19},
		{"2.6e19 and a gap before", math.Nextafter32(2.6e19, 0), 2.6e19, infinity, math.Nextafter32(2.6e19, 0)},
		{"2.6e19 and a gap behind", math.Nextafter32(2.6e19, infinity), 2.6e19, of(0x7f7e4871), 2.6e19},
		{"1e20 and a gap whose square is over it", 2.6e19, 1e20, infinity, 2.6e19},
		{"1 and a gap at it", 1, 1, 0.5, 1}, {"1 and one at it below", -1, 1, 0.5, -1},
		{"1 and a gap before", of(0x3f7fffff), 1, of(0x3efffffe), of(0x3f7fffff)}, {"1 and a gap behind", of(0x3f800001), 1, of(0x3f000002), 1},
		{"1 and one behind below", of(0xbf800001), 1, of(0x3f000002), -1},
		{"the least and the least gap", least, least, 0, least}, {"the least and the next gap", 2 * least, least, 0, least},
		{"the least and a gap below", -1, least, least, -least},
	} {
		loss, gradients, ok := impl.LossHuber([]float32{c.gap}, []float32{0}, c.bend)
		wantLossOk(t, "LossHuber with "+c.name, loss, gradients, ok, c.loss, []float32{c.gradient})
	}
}

func TestLossesOfEachLength(t *testing.T) {
	c := chance(200)
	for name, loss := range targetLosses() {
		for count := 1; count <= impl.MaxNumbers; count++ {
			for _, y := range c.lists(count) {
				target := c.lists(count)[c.below(5)]
				wantLoss, want := loss.rule(y, target)
				got, gradients, ok := loss.call(y, target)
				wantLossOk(t, name, got, gradients, ok, wantLoss, want)
			}
		}
	}
}

func TestLossesOfEachPair(t *testing.T) {
	for name, loss := range targetLosses() {
		for _, x := range edges() {
			for _, goal := range edges() {
				y, target := []float32{x, 1}, []float32{goal, 0.5}
				wantLoss, want := loss.rule(y, target)
				got, gradients, ok := loss.call(y, target)
				wantLossOk(t, name, got, gradients, ok, wantLoss, want)
			}
		}
	}
}

func TestLossesOfOtherLengths(t *testing.T) {
	const most = impl.MaxNumbers
	for name, loss := range targetLosses() {
		for _, counts := range [][2]int{
			{0, 0}, {0, 1}, {1, 0}, {1, 2}, {2, 1}, {most, most - 1}, {most - 1, most}, {most, most + 1}, {most + 1, most}, {most + 1, most + 1}, {most, 0}, {0, most}, {1000, 1000},
		} {
			got, gradients, ok := loss.call(filled(counts[0], 1), filled(counts[1], 2))
			wantFailed(t, name+" of other lengths", several{got, gradients}, ok)
		}
		got, gradients, ok := loss.call(nil, nil)
		wantFailed(t, name+" of no lists", several{got, gradients}, ok)
		_, gradients, ok = loss.call(filled(most, 1), filled(most, 2))
		wantValue(t, name+" of MaxNumbers", ok, true)
		wantValue(t, name+" of MaxNumbers: gradients", len(gradients), most)
	}
}

func TestGreatestOf(t *testing.T) {
	for _, c := range []struct {
		list []float32
		want int64
	}{
		{[]float32{1, 4, 4}, 1}, {[]float32{4, 4, 1}, 0}, {[]float32{1, 2, 3}, 2}, {[]float32{-5}, 0}, {[]float32{nan}, 0}, {[]float32{-infinity}, 0},
		{[]float32{0, minusZero}, 0}, {[]float32{minusZero, 0}, 0}, {[]float32{-1, minusZero, 0}, 1}, {[]float32{-1, 0, minusZero}, 1}, {[]float32{minusZero, 0, least}, 2},
		{[]float32{infinity, infinity}, 0}, {[]float32{greatest, infinity}, 1}, {[]float32{-infinity, -infinity, -greatest}, 2}, {[]float32{-infinity, -infinity}, 0},
		{[]float32{nan, 1, infinity}, 0}, {[]float32{1, nan, 2}, 2}, {[]float32{2, nan, 1}, 0}, {[]float32{1, 2, nan}, 1}, {[]float32{-infinity, nan, 5}, 2},
		{[]float32{3, nan, 3, 4, nan, 4}, 3}, {[]float32{of(0xff800001), infinity}, 0}, {filled(impl.MaxNumbers, 7), 0},
		{append(filled(impl.MaxNumbers-1, 7), 8), impl.MaxNumbers - 1},
	} {
		got, ok := impl.GreatestOf(c.list)
		wantOk(t, "GreatestOf "+textOfResult(c.list), got, ok, c.want)
	}
	for _, list := range [][]float32{nil, {}, filled(impl.MaxNumbers+1, 1), filled(1000, 1)} {
		got, ok := impl.GreatestOf(list)
		wantFailure(t, "GreatestOf a list of another length", got, ok)
	}
}

func TestGreatestOfIsWhatSoftmaxTakes(t *testing.T) {
	c := chance(201)
	for count := 1; count <= impl.MaxNumbers; count++ {
		for _, list := range c.lists(count) {
			want := 0
			for i := 1; i < len(list); i++ {
				if list[i] > list[want] {
					want = i
				}
			}
			got, ok := impl.GreatestOf(list)
			wantOk(t, "GreatestOf", got, ok, int64(want))
		}
	}
}
