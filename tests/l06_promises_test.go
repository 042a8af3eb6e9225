package tests

import (
	"math"
	"slices"
	"testing"

	"loop.example/g01157/impl"
)

func TestExamplesOfChapter6(t *testing.T) {
	s, ok := impl.NextScale(lossScale(1024, 1, 2), true)
	wantOk(t, "behind a finite step", s, ok, lossScale(2048, 0, 2))
	s, ok = impl.NextScale(lossScale(1024, 1, 2), false)
	wantOk(t, "behind one that is not", s, ok, lossScale(512, 0, 2))
	spread, ok := impl.SpreadOf([]float32{127, 1, -63.5})
	wantNumberOk(t, "the spread of three numbers", spread, ok, 1)
	codes, ok := impl.CodesOf([]float32{127, 1, -63.5}, spread)
	wantListOk(t, "the codes of three numbers", codes, ok, []int64{127, 1, -64})
}

func TestStepsThatAreNotFiniteChangeTheScaleAlone(t *testing.T) {
	c := chance(340)
	skipped := 0
	for range 12 {
		for name, arguments := range c.mixed() {
			arguments.rate = append(c.anyList(1), 0.1)[c.below(2)]
			for i := range arguments.x.Data {
				if c.below(4) == 0 {
					arguments.x.Data[i] = []float32{infinity, nan, greatest, 1e25}[c.below(4)]
				}
			}
			_, _, finite, _ := arguments.gradients()
			m, s, isFinite, ok := arguments.step()
			wantOk(t, name+": a step is finite if its gradients are", isFinite, ok, finite)
			if finite {
				continue
			}
			skipped++
			wantModelOk(t, name+": a step that is not finite", m, ok, arguments.model)
			next, _ := impl.NextScale(arguments.scale, false)
			wantValue(t, name+": its loss scale", s, next)
		}
	}
	wantValue(t, "many steps that are not finite", skipped > 100, true)
}

func TestMixedStepsAreStepsOneAfterAnother(t *testing.T) {
	c := chance(341)
	for name, arguments := range c.mixed() {
		first, count := arguments, int64(0)
		for steps := range int64(8) {
			m, s, finite, ok := first.steps(steps)
			wantModelOk(t, "MixedSteps of "+name, m, ok, arguments.model)
			wantValue(t, "MixedSteps of "+name+": loss scale", s, arguments.scale)
			wantValue(t, "MixedSteps of "+name+": how many were finite", finite, count)
			var isFinite bool
			arguments.model, arguments.scale, isFinite, _ = arguments.step()
			if isFinite {
				count++
			}
		}
	}
}

// isModerate reports whether numbers neither overflow nor lose bits when they
// are scaled by any power of 2 that is a scale.
func isModerate(list []float32) bool {
	return !slices.ContainsFunc(list, func(x float32) bool {
		size := math.Abs(float64(x))
		return x != 0 && !(size >= math.Ldexp(1, -80) && size <= math.Ldexp(1, 80))
	})
}

func TestScalesOfPowersOfTwoChangeNoBit(t *testing.T) {
	c := chance(342)
	checked := 0
	for range 3 {
		for name, arguments := range c.mixed() {
			rounded, _ := impl.RoundModel(arguments.model)
			want, wantLoss, _ := impl.ModelGradients(rounded, arguments.x, arguments.y)
			if !isModerate(append(want, wantLoss)) || !isModerate(paramsByRule(rounded)) || !isModerate(arguments.x.Data) || !isModerate(arguments.y.Data) {
				continue
			}
			checked++
			for exponent := -14; exponent <= 24; exponent++ {
				scale := float32(math.Ldexp(1, exponent))
				list, loss, finite, ok := impl.ScaledGradients(arguments.model, arguments.x, arguments.y, scale)
				wantNumbersOk(t, "ScaledGradients of "+name, list, ok, want)
				wantNumber(t, "ScaledGradients of "+name+": loss", loss, wantLoss)
				wantValue(t, "ScaledGradients of "+name+": finite", finite, true)
			}
		}
	}
	wantValue(t, "many models", checked > 40, true)
}

func TestMixedStepsWithEachPowerOfTwoAreTheSame(t *testing.T) {
	net := toldNet()
	net.scale = lossScale(1, 0, 3)
	want, _, _, _ := net.steps(20)
	for exponent := -14; exponent <= 24; exponent++ {
		net.scale = lossScale(float32(math.Ldexp(1, exponent)), 0, int64(20+exponent))
		m, _, finite, ok := net.steps(20)
		wantModelOk(t, "MixedSteps with a power of 2", m, ok, want)
		wantValue(t, "MixedSteps with a power of 2: finite", finite, 20)
	}
}

// wantWithin requires numbers to be back from codes within a bound, a part of
// their spread.
func wantWithin(t *testing.T, what string, list []float32, codes []int64, spread float32, bound float64) {
	t.Helper()
	back, ok := impl.NumbersOf(codes, spread)
	wantValue(t, what+": success", ok, true)
	for i, x := range list {
		if gap := math.Abs(float64(x) - float64(back[i])); !(gap <= bound*float64(spread)) {
			t.Errorf("%s: got %g back from %g with the spread %g", what, back[i], x, spread)
		}
	}
}

func TestEightBitsStayWithinTheirBounds(t *testing.T) {
	c := chance(343)
	checked := 0
	for exponent := -130; exponent <= 130; exponent++ {
		for range 12 {
			list := c.smallList(1 + c.below(20))
			for i := range list {
				list[i] = float32(float64(list[i]) * math.Ldexp(1, exponent))
			}
			spread, ok := impl.SpreadOf(list)
			if !ok || spread < of(0x0d800000) || spread > of(0x71800000) { // 2 to the power of -100, and of 100
				continue
			}
			checked++
			codes, _ := impl.CodesOf(list, spread)
			wantWithin(t, "CodesOf", list, codes, spread, 17./32)
			for _, chance := range []int64{0, 1, 127, 128, 254, 255} {
				codes, _ = impl.CodesBy(list, spread, filledCodes(len(list), chance))
				wantWithin(t, "CodesBy", list, codes, spread, 33./32)
			}
			codes, _ = impl.CodesBy(list, spread, c.chances(len(list)))
			wantWithin(t, "CodesBy", list, codes, spread, 33./32)
		}
	}
	wantValue(t, "many lists", checked > 2000, true)
}

// Of all chances, as many go up as the difference has parts of 256.
func TestAsManyChancesGoUpAsThereAreParts(t *testing.T) {
	for part := range int64(256) {
		for _, whole := range []int64{0, 5, -1, -7, 126, -127} {
			list := filled(256, float32(whole)+float32(part)/256)
			var chances []int64
			for chance := range int64(256) {
				chances = append(chances, chance)
			}
			codes, ok := impl.CodesBy(list, 1, chances)
			wantValue(t, "CodesBy: success", ok, true)
			ups := int64(0)
			for chance, code := range codes {
				wantValue(t, "one of both integers", code == whole || code == whole+1, true)
				wantValue(t, "the lesser chances go up", code > whole, int64(chance) < part)
				ups += code - whole
			}
			wantValue(t, "how many go up", ups, part)
		}
	}
}

type mixedCall func(a mixedArguments, steps int64) (several, bool)

// mixedCalls has the functions of chapter 6 with a model.
func mixedCalls() map[string]mixedCall {
	return map[string]mixedCall{
		"ScaledGradients": func(a mixedArguments, _ int64) (several, bool) {
			list, loss, finite, ok := a.gradients()
			return several{list, loss, finite}, ok
		},
		"MixedStep": func(a mixedArguments, _ int64) (several, bool) {
			m, s, finite, ok := a.step()
			return several{m, s, finite}, ok
		},
		"MixedSteps": func(a mixedArguments, steps int64) (several, bool) {
			m, s, finite, ok := a.steps(steps)
			return several{m, s, finite}, ok
		},
	}
}

// roomyMixed returns a copy of a with unused capacity everywhere.
func roomyMixed(a mixedArguments) mixedArguments {
	a.model, a.x, a.y = roomyModel(a.model), roomy(a.x), roomy(a.y)
	return a
}

func rawMixed(a mixedArguments) string {
	return modelText(a.model) + textOfResult(rawBits(a.x.Data), rawBits(a.y.Data))
}

// someMixed has valid arguments of mixed steps and others.
func (c *chance) someMixed() map[string]mixedArguments {
	list := c.mixed()
	for name, broken := range brokenModels() {
		list["broken: "+name] = mixedArguments{broken, lossScale(1, 0, 1), c.smallTensor(2, 2), c.smallTensor(2, 2), 0.5}
	}
	net := toldNet()
	net.y = tensor(2, 2, 1, 2, 3, 4)
	list["rows that do not fit"] = net
	net = toldNet()
	net.scale.Grow = 0
	list["another loss scale"] = net
	square := mixedArguments{model(c.smallLayer(0, 2, 2)), lossScale(1, 0, 1), c.smallTensor(2, 2), impl.Tensor{}, 0.5}
	square.y = square.x
	list["one tensor twice"] = square
	shared := c.smallLayer(impl.LayerScale, 2, 2)
	square.model = model(shared, shared, layer(impl.LayerDense, 2, 1, shared.Weights, square.x.Data[:1]))
	square.y = tensor(2, 1, square.x.Data[1:3]...)
	list["one list in several places"] = square
	return list
}

func TestArgumentsOfMixedStepsAreNotChanged(t *testing.T) {
	c := chance(344)
	for name, tight := range c.someMixed() {
		arguments := roomyMixed(tight)
		before, beforeTight := rawMixed(arguments), rawMixed(tight)
		for function, call := range mixedCalls() {
			for _, steps := range []int64{0, 1, 3, 51} {
				checkCall(t, function+" of "+name, func() (several, bool) { return call(arguments, steps) })
				checkCall(t, function+" of "+name, func() (several, bool) { return call(tight, steps) })
				got, ok := call(arguments, steps)
				want, wantOk := call(tight, steps)
				wantValue(t, function+" with unused capacity of "+name, textOfResult(got, ok), textOfResult(want, wantOk))
			}
		}
		wantValue(t, "the arguments of "+name, rawMixed(arguments), before)
		wantValue(t, "the arguments without capacity of "+name, rawMixed(tight), beforeTight)
	}
}

func paramLists(m impl.Model) (parts [][]float32) {
	for _, l := range m.Layers {
		parts = append(parts, l.Weights, l.Bias)
	}
	return parts
}

func TestSlicesOfMixedStepsAreApart(t *testing.T) {
	c := chance(345)
	for name, arguments := range c.mixed() {
		for _, steps := range []int64{0, 1, 2} {
			arguments = roomyMixed(arguments)
			list, _, _, _ := arguments.gradients()
			alone, _, _, _ := arguments.step()
			made, _, _, ok := arguments.steps(steps)
			wantValue(t, "MixedSteps of "+name, ok, true)
			parts := append(paramLists(alone), paramLists(made)...)
			parts = append(parts, paramLists(arguments.model)...)
			wantApart(t, "mixed steps of "+name, append(parts, list, arguments.x.Data, arguments.y.Data))
			before := textOfResult(arguments.model)
			clear(made.Layers[:cap(made.Layers)])
			clear(alone.Layers[:cap(alone.Layers)])
			wantValue(t, "the layers of "+name, textOfResult(arguments.model), before)
		}
	}
}

type codesCall func(list []float32, a, b []int64, x float32, n int64) (several, bool)

// codesCalls has the functions of chapter 6 with lists.
func codesCalls() map[string]codesCall {
	one := func(result any, ok bool) (several, bool) { return several{result}, ok }
	return map[string]codesCall{
		"SpreadOf": func(list []float32, a, b []int64, x float32, n int64) (several, bool) {
			spread, ok := impl.SpreadOf(list)
			return one(spread, ok)
		},
		"CodesOf": func(list []float32, a, b []int64, x float32, n int64) (several, bool) {
			codes, ok := impl.CodesOf(list, x)
			return one(codes, ok)
		},
		"CodesBy": func(list []float32, a, b []int64, x float32, n int64) (several, bool) {
			codes, ok := impl.CodesBy(list, x, a)
			return one(codes, ok)
		},
		"NumbersOf": func(list []float32, a, b []int64, x float32, n int64) (several, bool) {
			numbers, ok := impl.NumbersOf(a, x)
			return one(numbers, ok)
		},
		"DotOfCodes": func(list []float32, a, b []int64, x float32, n int64) (several, bool) {
			dot, ok := impl.DotOfCodes(a, b, x, 0.5)
			return one(dot, ok)
		},
		"GatherRounding": func(list []float32, a, b []int64, x float32, n int64) (several, bool) {
			return pair(impl.GatherRounding(list, n))
		},
	}
}

func TestListsOfEightBitsAreNotChanged(t *testing.T) {
	c := chance(346)
	fine, others := spreads()
	counts := []int{0, 1, 2, 7, impl.MaxNumbers, impl.MaxNumbers + 1}
	for name, call := range codesCalls() {
		for _, first := range counts {
			for _, second := range []int{first, counts[c.below(6)]} {
				for _, numbers := range append(c.coded(first), c.anyList(first)) {
					for _, integers := range [][]int64{c.chances(second), c.codes(second), filledCodes(second, -128), filledCodes(second, 256)} {
						list, a, b := roomyList(numbers), roomyIntegers(integers), roomyIntegers(c.codes(second))
						before := textOfResult(rawBits(list), rawIntegers(a), rawIntegers(b))
						for _, x := range []float32{0, 0.5, fine[c.below(len(fine))], others[c.below(len(others))]} {
							n := int64(c.below(23) - 1)
							checkCall(t, name, func() (several, bool) { return call(list, a, b, x, n) })
							checkCall(t, name+" of one twice", func() (several, bool) { return call(list, a, a, x, n) })
							got, ok := call(list, a, b, x, n)
							want, wantOk := call(slices.Clip(list), slices.Clip(a), slices.Clip(b), x, n)
							wantValue(t, name+" with unused capacity", textOfResult(got, ok), textOfResult(want, wantOk))
						}
						wantValue(t, "the arguments of "+name, textOfResult(rawBits(list), rawIntegers(a), rawIntegers(b)), before)
					}
				}
			}
		}
	}
}

func TestSlicesOfEightBitsAreApart(t *testing.T) {
	c := chance(347)
	for _, count := range []int{1, 2, 7, impl.MaxNumbers} {
		for _, numbers := range c.coded(count) {
			for _, spread := range []float32{0, 1} {
				list, chances := roomyList(numbers), roomyIntegers(c.chances(count))
				codes, _ := impl.CodesOf(list, spread)
				chosen, _ := impl.CodesBy(list, spread, chances)
				wantApart(t, "codes", [][]int64{codes, chosen, chances})
			}
			for rounds := range int64(4) {
				list := roomyList(numbers)
				sums, rests, _ := impl.GatherRounding(list, rounds)
				wantApart(t, "GatherRounding", [][]float32{sums, rests, list})
			}
		}
	}
}

func TestEachFunctionOfMixedStepsReturnsTheSameForAllIntegers(t *testing.T) {
	integers := append(anyIntegers(), 3, 20, 21, 50, 51, 999, 1000, 1001, -2, -127, -128)
	for _, n := range integers {
		for _, m := range integers {
			for _, scale := range []float32{1, mostScale, nan} {
				s := lossScale(scale, n, m)
				checkCall(t, "ValidScale", func() (bool, bool) { return alone(impl.ValidScale(s)) })
				checkCall(t, "NextScale", func() (impl.LossScale, bool) { return impl.NextScale(s, true) })
				checkCall(t, "NextScale", func() (impl.LossScale, bool) { return impl.NextScale(s, false) })
			}
			for name, call := range codesCalls() {
				checkCall(t, name, func() (several, bool) { return call([]float32{0.5, 3}, []int64{n, m}, []int64{m, n}, 1, n) })
			}
			arguments := oneNumber(2, 3, 5, 8)
			arguments.scale.Good, arguments.scale.Grow = n, m
			broken := oneNumber(2, 3, 5, 8)
			broken.x.Rows, broken.y.Columns, broken.model.Layers[0].In = n, m, m
			for name, call := range mixedCalls() {
				checkCall(t, name, func() (several, bool) { return call(arguments, 2) })
				checkCall(t, name, func() (several, bool) { return call(broken, n) })
			}
		}
	}
}

func TestEachFunctionOfMixedStepsReturnsTheSameForAllNumbers(t *testing.T) {
	for _, x := range edges() {
		for _, scale := range edges() {
			checkCall(t, "NextScale", func() (impl.LossScale, bool) { return impl.NextScale(lossScale(scale, 1, 2), x > 0) })
			arguments := oneNumber(x, 0.3, 0.7, scale)
			arguments.rate = x
			for name, call := range mixedCalls() {
				checkCall(t, name, func() (several, bool) { return call(arguments, 3) })
			}
			for name, call := range codesCalls() {
				checkCall(t, name, func() (several, bool) { return call([]float32{x, 1}, []int64{3, 5}, []int64{7, 9}, scale, 5) })
			}
		}
	}
}
