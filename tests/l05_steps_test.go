package tests

import (
	"math"
	"slices"
	"testing"

	"loop.example/g01157/impl"
)

func TestConstantsOfChapter5(t *testing.T) {
	wantValue(t, "MaxSteps", impl.MaxSteps, 1000)
	kinds := []int64{impl.StepPlain, impl.StepMomentum, impl.StepSquares, impl.StepMean, impl.StepAdam}
	wantListOk(t, "the kinds of optimisers", kinds, true, allStepKinds())
}

func TestValidOptimizer(t *testing.T) {
	for _, x := range edges() {
		for _, y := range edges() {
			for _, kind := range allStepKinds() {
				wantValue(t, "ValidOptimizer", impl.ValidOptimizer(optimizer(kind, x, y, y, x)), true)
				wantValue(t, "ValidOptimizer", impl.ValidOptimizer(optimizer(kind, y, x, y, x)), true)
			}
			for _, kind := range otherStepKinds() {
				wantValue(t, "ValidOptimizer of another kind", impl.ValidOptimizer(optimizer(kind, x, y, y, x)), false)
			}
		}
	}
	wantValue(t, "ValidOptimizer of the zero struct", impl.ValidOptimizer(impl.Optimizer{}), true)
}

func TestEmptySlots(t *testing.T) {
	for _, kind := range allStepKinds() {
		for count := range int64(impl.MaxNumbers + 1) {
			slots, ok := impl.EmptySlots(optimizer(kind, nan, infinity, minusZero, -1), count)
			want := slotsOf(kind, func() []float32 { return filled(int(count), 0) })
			wantValue(t, "EmptySlots", textOfResult(slots, ok), textOfResult(want, true))
		}
		for _, count := range []int64{-1, -2, impl.MaxNumbers + 1, 1000, math.MaxInt64, math.MinInt64, 1 << 32, 1<<32 + 1} {
			slots, ok := impl.EmptySlots(optimizer(kind, 1, 0, 0, 0), count)
			wantFailed(t, "EmptySlots of another number", slots, ok)
		}
	}
	for _, kind := range otherStepKinds() {
		for _, count := range []int64{0, 1, 256, 257, -1} {
			slots, ok := impl.EmptySlots(optimizer(kind, 1, 0, 0, 0), count)
			wantFailed(t, "EmptySlots of another kind", slots, ok)
		}
	}
}

// Bits that are told have been computed apart from this program, in 32-bit
// numbers of another language.
func TestStepsWithToldBits(t *testing.T) {
	params, gradients := []float32{0.5, -1.25, 3}, []float32{0.1, -0.7, 1.3}
	first, squares := []float32{0.2, -0.4, 0.9}, []float32{0.2, 0.4, 0.9}
	blended := []uint32{0x3e4c9afe, 0x3eccd898, 0x3f669a2c}
	adam := [][]uint32{{0x3e428f5c, 0xbedc28f6, 0x3f70a3d6}, blended}
	for _, c := range []struct {
		name        string
		kind, steps int64
		slots       [][]float32
		want        []uint32
		wantSlots   [][]uint32
	}{
		{"plain", impl.StepPlain, 0, nil, []uint32{0x3efae148, 0xbf970a3d, 0x4037ae14}, nil},
		{"momentum", impl.StepMomentum, 7, [][]float32{first}, []uint32{0x3ef1a9fc, 0xbf926e98, 0x40327efa}, [][]uint32{{0x3e8f5c29, 0xbf87ae14, 0x40070a3d}}},
		{"squares", impl.StepSquares, 7, [][]float32{squares}, []uint32{0x3ef4d3c6, 0xbf96809f, 0x403ad488}, [][]uint32{{0x3e570a3e, 0x3f63d70a, 0x4025c28e}}},
		{"mean", impl.StepMean, 7, [][]float32{squares}, []uint32{0x3ef48bbf, 0xbf91d5a8, 0x40373bda}, [][]uint32{blended}},
		{"adam first", impl.StepAdam, 0, [][]float32{first, squares}, []uint32{0x3ef91e38, 0xbf9d3f92, 0x403dfedd}, adam},
		{"adam second", impl.StepAdam, 1, [][]float32{first, squares}, []uint32{0x3efae0ff, 0xbf9df3d0, 0x403e8228}, adam},
		{"adam tenth", impl.StepAdam, 9, [][]float32{first, squares}, []uint32{0x3efcaa8c, 0xbf9eaac2, 0x403f076c}, adam},
		{"adam last", impl.StepAdam, impl.MaxSteps - 1, [][]float32{first, squares}, []uint32{0x3eeeb1df, 0xbf9914aa, 0x403af5ae}, adam},
	} {
		o := optimizer(c.kind, 0.1, 0.9, 0.999, 1e-8)
		got, slots, ok := impl.StepParams(o, params, gradients, c.slots, c.steps)
		wantNumbersOk(t, "a step, "+c.name, got, ok, numbersOf(c.want))
		wantValue(t, "slots, "+c.name, len(slots), len(c.wantSlots))
		for k, slot := range slots {
			wantNumbersOk(t, "a slot, "+c.name, slot, ok, numbersOf(c.wantSlots[k]))
		}
	}
}

func numbersOf(bits []uint32) []float32 {
	list := make([]float32, len(bits))
	for i, b := range bits {
		list[i] = of(b)
	}
	return list
}

// oneStep is a step of one parameter w with the gradient g.
type oneStep struct {
	name      string
	optimizer impl.Optimizer
	w, g      float32
	own       []float32
	steps     int64
	want      float32
	wantOwn   []float32
}

func checkSteps(t *testing.T, cases []oneStep) {
	t.Helper()
	for _, c := range cases {
		var slots [][]float32
		for _, x := range c.own {
			slots = append(slots, []float32{x})
		}
		got, kept, ok := impl.StepParams(c.optimizer, []float32{c.w}, []float32{c.g}, slots, c.steps)
		wantNumbersOk(t, c.name, got, ok, []float32{c.want})
		wantNumbersOk(t, c.name+": slots", slices.Concat(kept...), ok, c.wantOwn)
		wantValue(t, c.name+": number of slots", len(kept), len(c.own))
	}
}

func TestPlainAndMomentumSteps(t *testing.T) {
	plain := func(rate float32) impl.Optimizer { return optimizer(impl.StepPlain, rate, nan, nan, nan) }
	momentum := func(rate, a float32) impl.Optimizer { return optimizer(impl.StepMomentum, rate, a, nan, nan) }
	near := of(0x3f800001)
	checkSteps(t, []oneStep{
		{name: "plain", optimizer: plain(0.5), w: 1, g: 2, want: 0},
		{name: "plain, the last one", optimizer: plain(0.5), w: 2, g: 2, steps: 999, want: 1},
		{name: "plain, a product that is rounded before", optimizer: plain(near), w: of(0x3f800002), g: near, want: 0},
		{name: "plain, a rate of +0", optimizer: plain(0), w: minusZero, g: -1, want: 0},
		{name: "plain, a rate of -0", optimizer: plain(minusZero), w: minusZero, g: -1, want: minusZero},
		{name: "plain, a rate of +0 and infinity", optimizer: plain(0), w: 1, g: infinity, want: nan},
		{name: "plain, an infinite rate", optimizer: plain(infinity), w: 1, g: 1, want: -infinity},
		{name: "plain, an infinite rate and 0", optimizer: plain(infinity), w: 1, g: 0, want: nan},
		{name: "plain, an infinite rate and w", optimizer: plain(infinity), w: infinity, g: 1, want: nan},
		{name: "plain, a negative rate", optimizer: plain(-0.5), w: 1, g: 2, want: 2},
		{name: "plain, a rate that is none", optimizer: plain(nan), w: 1, g: 0, want: nan},
		{name: "plain, a gradient that is none", optimizer: plain(0), w: 1, g: nan, want: nan},
		{name: "plain, a w that is none", optimizer: plain(0), w: nan, g: 1, want: nan},
		{name: "momentum", optimizer: momentum(0.5, 0.5), w: 1, g: 2, own: []float32{4}, want: -1, wantOwn: []float32{4}},
		{name: "momentum, the new slot", optimizer: momentum(1, 2), w: 10, g: 1, own: []float32{3}, want: 3, wantOwn: []float32{7}},
		{name: "momentum, a Beta1 of +0", optimizer: momentum(1, 0), w: 10, g: minusZero, own: []float32{-3}, want: 10, wantOwn: []float32{minusZero}},
		{name: "momentum, a Beta1 of -0", optimizer: momentum(1, minusZero), w: 10, g: minusZero, own: []float32{-3}, want: 10, wantOwn: []float32{0}},
		{name: "momentum, an infinite Beta1", optimizer: momentum(1, infinity), w: 10, g: 1, own: []float32{0}, want: nan, wantOwn: []float32{nan}},
		{name: "momentum, an infinite slot", optimizer: momentum(1, infinity), w: 10, g: 1, own: []float32{1}, want: -infinity, wantOwn: []float32{infinity}},
		{name: "momentum, a Beta1 that is none", optimizer: momentum(0, nan), w: 10, g: 1, own: []float32{0}, want: nan, wantOwn: []float32{nan}},
		{name: "momentum, a slot that is none", optimizer: momentum(1, 0), w: 10, g: 1, own: []float32{nan}, want: nan, wantOwn: []float32{nan}},
		{name: "momentum, a product that is rounded before", optimizer: momentum(1, near), w: 0, g: of(0xbf800002), own: []float32{near}, want: 0, wantOwn: []float32{0}},
		{name: "momentum, the rate with the slot", optimizer: momentum(near, 0), w: of(0x3f800002), g: near, own: []float32{1}, want: 0, wantOwn: []float32{near}},
	})
}

func TestSquaresAndMeanSteps(t *testing.T) {
	const tiny = 1e-30 // its square is under the least
	squares := func(rate, eps float32) impl.Optimizer { return optimizer(impl.StepSquares, rate, nan, nan, eps) }
	mean := func(rate, b, eps float32) impl.Optimizer { return optimizer(impl.StepMean, rate, nan, b, eps) }
	checkSteps(t, []oneStep{
		{name: "squares", optimizer: squares(1, 0), w: 1, g: 3, own: []float32{7}, want: 0.25, wantOwn: []float32{16}},
		{name: "squares, Eps added to the root", optimizer: squares(6, 5), w: 1, g: 3, own: []float32{7}, steps: 999, want: -1, wantOwn: []float32{16}},
		{name: "squares, a negative Eps", optimizer: squares(1, -4), w: 1, g: 3, own: []float32{7}, want: -infinity, wantOwn: []float32{16}},
		{name: "squares, an infinite Eps", optimizer: squares(1, infinity), w: 1, g: 3, own: []float32{7}, want: 1, wantOwn: []float32{16}},
		{name: "squares, an Eps that is none", optimizer: squares(0, nan), w: 1, g: 3, own: []float32{7}, want: nan, wantOwn: []float32{16}},
		{name: "squares, a root of 0", optimizer: squares(1, 0), w: 1, g: 0, own: []float32{0}, want: nan, wantOwn: []float32{0}},
		{name: "squares, a root of 0 and a gradient", optimizer: squares(1, 0), w: 1, g: tiny, own: []float32{0}, want: -infinity, wantOwn: []float32{0}},
		{name: "squares, a root of 0 and one below", optimizer: squares(1, 0), w: 1, g: -tiny, own: []float32{0}, want: infinity, wantOwn: []float32{0}},
		{name: "squares, a root of 0 and an Eps of -0", optimizer: squares(1, minusZero), w: 1, g: tiny, own: []float32{minusZero}, want: -infinity, wantOwn: []float32{0}},
		{name: "squares, a root of 0 and an Eps", optimizer: squares(1, 0.5), w: 1, g: 0, own: []float32{minusZero}, want: 1, wantOwn: []float32{0}},
		{name: "squares, a root of a negative slot", optimizer: squares(1, 0), w: 1, g: 1, own: []float32{-2}, want: nan, wantOwn: []float32{-1}},
		{name: "squares, the product over the greatest", optimizer: squares(greatest, 0), w: 0, g: 2, own: []float32{0}, want: -infinity, wantOwn: []float32{4}},
		{name: "squares, the product under the least", optimizer: squares(tiny, 0), w: 0, g: 1e-20, own: []float32{0}, want: 0, wantOwn: []float32{1e-40}},
		{name: "squares, a square over the greatest", optimizer: squares(1, 0), w: 1, g: 1e30, own: []float32{0}, want: 1, wantOwn: []float32{infinity}},
		{name: "squares, an infinity", optimizer: squares(1, 0), w: 1, g: infinity, own: []float32{0}, want: nan, wantOwn: []float32{infinity}},
		{name: "squares, a slot that is none", optimizer: squares(1, 0), w: 1, g: 2, own: []float32{nan}, want: nan, wantOwn: []float32{nan}},
		{name: "squares, a square that is rounded before", optimizer: squares(0, 1), w: 5, g: 4097, own: []float32{1}, want: 5, wantOwn: []float32{16785408}},
		{name: "mean", optimizer: mean(2, 0.5, 0), w: 1, g: 4, own: []float32{2}, want: of(0xbfd55556), wantOwn: []float32{9}},
		{name: "mean, Eps added to the root", optimizer: mean(2, 0.5, 1), w: 1, g: 4, own: []float32{2}, want: -1, wantOwn: []float32{9}},
		{name: "mean, a Beta2 of 1", optimizer: mean(1, 1, 0), w: 1, g: 4, own: []float32{4}, want: -1, wantOwn: []float32{4}},
		{name: "mean, a Beta2 of +0", optimizer: mean(1, 0, 0), w: 3, g: 4, own: []float32{-9}, want: 2, wantOwn: []float32{16}},
		{name: "mean, a Beta2 of -0", optimizer: mean(1, minusZero, 0), w: 3, g: 4, own: []float32{9}, want: 2, wantOwn: []float32{16}},
		{name: "mean, a Beta2 of 2 and a root of -0", optimizer: mean(1, 2, minusZero), w: 1, g: tiny, own: []float32{minusZero}, want: infinity, wantOwn: []float32{minusZero}},
		{name: "mean, a root of -0 and an Eps of +0", optimizer: mean(1, 2, 0), w: 1, g: tiny, own: []float32{minusZero}, want: -infinity, wantOwn: []float32{minusZero}},
		{name: "mean, a root of 0", optimizer: mean(1, 0.5, 0), w: 1, g: 0, own: []float32{0}, want: nan, wantOwn: []float32{0}},
		{name: "mean, an infinite Beta2", optimizer: mean(1, infinity, 0), w: 1, g: 1, own: []float32{1}, want: nan, wantOwn: []float32{nan}},
		{name: "mean, a Beta2 that is none", optimizer: mean(0, nan, 1), w: 1, g: 1, own: []float32{1}, want: nan, wantOwn: []float32{nan}},
		{name: "mean, the square before the share", optimizer: mean(1, 0.5, 0), w: 1, g: 2e19, own: []float32{0}, want: 1, wantOwn: []float32{infinity}},
		{name: "mean, the share of a square under the least", optimizer: mean(0, -1e10, 1), w: 1, g: tiny, own: []float32{0}, want: 1, wantOwn: []float32{0}},
	})
}

func TestAdamSteps(t *testing.T) {
	const tiny = 1e-30
	adam := func(rate, a, b, eps float32) impl.Optimizer { return optimizer(impl.StepAdam, rate, a, b, eps) }
	checkSteps(t, []oneStep{
		{name: "adam", optimizer: adam(1, 0.5, 0.5, 0), w: 1, g: 2, own: []float32{0, 0}, want: 0, wantOwn: []float32{1, 2}},
		{name: "adam, the slots apart", optimizer: adam(1, 0.5, 0.25, 0), w: 1, g: 4, own: []float32{2, 0}, want: -0.5, wantOwn: []float32{3, 12}},
		{name: "adam, Eps added to the root", optimizer: adam(9, 0.5, 0.25, 2), w: 1, g: 4, own: []float32{2, 0}, want: -8, wantOwn: []float32{3, 12}},
		{name: "adam, the second step", optimizer: adam(3, 0.5, 0.75, 0), w: 1, g: 1, own: []float32{2, 2}, steps: 1, want: -2, wantOwn: []float32{1.5, 1.75}},
		{name: "adam, Betas of 0", optimizer: adam(1, 0, 0, 0), w: 3, g: -4, own: []float32{9, 9}, steps: 999, want: 4, wantOwn: []float32{-4, 16}},
		{name: "adam, Betas of -0", optimizer: adam(1, minusZero, minusZero, 0), w: 3, g: -4, own: []float32{9, 9}, want: 4, wantOwn: []float32{-4, 16}},
		{name: "adam, Betas of 1", optimizer: adam(1, 1, 1, 0), w: 3, g: 4, own: []float32{9, 9}, want: nan, wantOwn: []float32{9, 9}},
		{name: "adam, a Beta1 of 1", optimizer: adam(1, 1, 0, 0), w: 3, g: 4, own: []float32{9, 9}, want: -infinity, wantOwn: []float32{9, 16}},
		{name: "adam, a Beta2 of 1", optimizer: adam(1, 0, 1, 0), w: 3, g: 4, own: []float32{9, 9}, want: 3, wantOwn: []float32{4, 9}},
		{name: "adam, a Beta1 of -1 in the second step", optimizer: adam(1, -1, 0, 0), w: 3, g: 1, own: []float32{1, 0}, steps: 1, want: -infinity, wantOwn: []float32{1, 1}},
		{name: "adam, a Beta1 of -1 in the first step", optimizer: adam(1, -1, 0, 0), w: 3, g: 1, own: []float32{1, 0}, want: 2.5, wantOwn: []float32{1, 1}},
		{name: "adam, an infinite Beta1", optimizer: adam(1, infinity, 0, 0), w: 3, g: 1, own: []float32{1, 0}, want: nan, wantOwn: []float32{nan, 1}},
		{name: "adam, a Beta1 that is none", optimizer: adam(0, nan, 0, 0), w: 3, g: 1, own: []float32{1, 0}, want: nan, wantOwn: []float32{nan, 1}},
		{name: "adam, a Beta2 that is none", optimizer: adam(0, 0, nan, 0), w: 3, g: 1, own: []float32{1, 0}, want: nan, wantOwn: []float32{1, nan}},
		{name: "adam, a root of 0", optimizer: adam(1, 0, 0, 0), w: 3, g: 0, own: []float32{0, 0}, want: nan, wantOwn: []float32{0, 0}},
		{name: "adam, a root of 0 and a gradient", optimizer: adam(1, 0, 0, 0), w: 3, g: tiny, own: []float32{0, 0}, want: -infinity, wantOwn: []float32{tiny, 0}},
		{name: "adam, a root of 0 and an Eps", optimizer: adam(1, 0, 0, tiny), w: 3, g: tiny, own: []float32{0, 0}, want: 2, wantOwn: []float32{tiny, 0}},
		{name: "adam, a root of -0 and an Eps of -0", optimizer: adam(1, 0, 2, minusZero), w: 3, g: tiny, own: []float32{0, 0}, steps: 2, want: infinity, wantOwn: []float32{tiny, 0}},
		{name: "adam, a root of a negative slot", optimizer: adam(1, 0, 0.5, 0), w: 3, g: 0, own: []float32{0, -1}, want: nan, wantOwn: []float32{0, -0.5}},
		{name: "adam, the product over the greatest", optimizer: adam(greatest, 0, 0, 0), w: 0, g: 2, own: []float32{0, 0}, want: -infinity, wantOwn: []float32{2, 4}},
		{name: "adam, the product under the least", optimizer: adam(tiny, 0, 0, 0), w: 0, g: 1e-20, own: []float32{0, 0}, want: 0, wantOwn: []float32{1e-20, 1e-40}},
		{name: "adam, an infinity", optimizer: adam(1, 0.5, 0.5, 0), w: 3, g: infinity, own: []float32{0, 0}, want: nan, wantOwn: []float32{infinity, infinity}},
		{name: "adam, a gradient that is none", optimizer: adam(1, 0.5, 0.5, 0), w: 3, g: nan, own: []float32{0, 0}, want: nan, wantOwn: []float32{nan, nan}},
	})
}

func (s stepArguments) check(t *testing.T) {
	t.Helper()
	want, wantSlots := s.byRule()
	got, slots, ok := s.step()
	if textOfResult(got, slots, ok) != textOfResult(want, wantSlots, true) {
		t.Errorf("StepParams of %v: got %v %v %v, want %v %v", s, got, slots, ok, want, wantSlots)
	}
}

func TestStepsOfEachLength(t *testing.T) {
	c := chance(220)
	for _, kind := range allStepKinds() {
		for count := range impl.MaxNumbers + 1 {
			for _, arguments := range c.arguments(kind, count) {
				arguments.check(t)
			}
		}
	}
}

func TestStepsWithEachNumber(t *testing.T) {
	c := chance(221)
	for _, kind := range allStepKinds() {
		for _, x := range edges() {
			for field := range 4 {
				arguments := c.arguments(kind, 31)[0]
				arguments.params = edges()[:31]
				numbers := []*float32{&arguments.optimizer.Rate, &arguments.optimizer.Beta1, &arguments.optimizer.Beta2, &arguments.optimizer.Eps}
				*numbers[field] = x
				for _, g := range edges() {
					arguments.gradients = filled(31, g)
					arguments.check(t)
				}
			}
		}
	}
}

func TestStepsBehindEachNumberOfSteps(t *testing.T) {
	c := chance(222)
	for _, kind := range allStepKinds() {
		for steps := range int64(impl.MaxSteps) {
			arguments := c.arguments(kind, 3)[0]
			arguments.steps = steps
			arguments.check(t)
		}
		for _, steps := range append(anyIntegers(), impl.MaxSteps, impl.MaxSteps+1, -2) {
			for _, count := range []int{0, 1, 3} {
				arguments := c.arguments(kind, count)[0]
				arguments.steps = steps
				if steps < 0 || steps >= impl.MaxSteps {
					arguments.wantFailed(t, "steps that are no number before")
				}
			}
		}
	}
}

func (s stepArguments) wantFailed(t *testing.T, what string) {
	t.Helper()
	params, slots, ok := s.step()
	wantFailed(t, "StepParams with "+what, several{params, slots}, ok)
}

func TestStepsOfOtherLengths(t *testing.T) {
	for _, kind := range allStepKinds() {
		for _, count := range []int{0, 1, 2, 5, impl.MaxNumbers, impl.MaxNumbers + 1, 1000} {
			list := func() []float32 { return filled(count, 1) }
			valid := stepArguments{optimizer(kind, 1, 0.5, 0.5, 0), list(), list(), slotsOf(kind, list), 0}
			if count > impl.MaxNumbers {
				valid.wantFailed(t, "too many numbers")
				continue
			}
			valid.check(t)
			for _, other := range []int{count - 1, count + 1, 0, 1, 2 * count} {
				if other < 0 || other == count {
					continue
				}
				broken := valid
				broken.gradients = filled(other, 1)
				broken.wantFailed(t, "other gradients")
				broken = valid
				broken.params = filled(other, 1)
				broken.wantFailed(t, "other parameters")
				for k := range valid.slots {
					broken = valid
					broken.slots = slices.Clone(valid.slots)
					broken.slots[k] = filled(other, 1)
					broken.wantFailed(t, "a slot of another length")
				}
			}
			for slots := range 6 {
				broken := valid
				broken.slots = nil
				for range slots {
					broken.slots = append(broken.slots, list())
				}
				if slots != slotsByRule(kind) {
					broken.wantFailed(t, "another number of slots")
				}
			}
		}
	}
}

func TestSlotsOfPlainStepsAreEmpty(t *testing.T) {
	plain := optimizer(impl.StepPlain, 0.5, 0, 0, 0)
	for _, slots := range [][][]float32{nil, {}} {
		got, kept, ok := impl.StepParams(plain, []float32{1, 2}, []float32{2, 2}, slots, 0)
		wantNumbersOk(t, "a plain step", got, ok, []float32{0, 1})
		wantValue(t, "the slots of a plain step", len(kept), 0)
		got, kept, ok = impl.StepParams(plain, nil, []float32{}, slots, 0)
		wantNumbersOk(t, "a plain step of no parameters", got, ok, nil)
		wantValue(t, "the slots of a plain step of none", len(kept), 0)
	}
	for _, slots := range [][][]float32{{nil}, {{}}, {{}, {}}, {{1}}, {{1, 2}}} {
		stepArguments{plain, nil, nil, slots, 0}.wantFailed(t, "a slot of a plain step of none")
		stepArguments{plain, []float32{1, 2}, []float32{2, 2}, slots, 0}.wantFailed(t, "a slot of a plain step")
	}
	momentum := optimizer(impl.StepMomentum, 0.5, 0, 0, 0)
	for _, slots := range [][][]float32{{nil}, {{}}} {
		got, kept, ok := impl.StepParams(momentum, nil, nil, slots, 0)
		wantNumbersOk(t, "a step of no parameters", got, ok, nil)
		wantValue(t, "the slots of no parameters", len(kept), 1)
	}
	stepArguments{momentum, nil, nil, nil, 0}.wantFailed(t, "no slots of no parameters")
}

func TestStepsOfOtherKinds(t *testing.T) {
	for _, kind := range otherStepKinds() {
		for slots := range 4 {
			for count := range 3 {
				list := func() []float32 { return filled(count, 1) }
				arguments := stepArguments{optimizer(kind, 1, 0.5, 0.5, 0), list(), list(), nil, 0}
				for range slots {
					arguments.slots = append(arguments.slots, list())
				}
				arguments.wantFailed(t, "another kind")
			}
		}
	}
}
