package tests

import (
	"slices"
	"testing"

	"loop.example/g01157/impl"
)

func TestExamplesOfChapter5(t *testing.T) {
	loss, gradients, ok := impl.LossSquares([]float32{1, 3}, []float32{0, 1})
	wantLossOk(t, "LossSquares", loss, gradients, ok, 2.5, []float32{1, 2})
	plain := optimizer(impl.StepPlain, 0.5, 0, 0, 0)
	params, slots, ok := impl.StepParams(plain, []float32{1, 2}, []float32{2, 2}, nil, 0)
	wantNumbersOk(t, "a plain step", params, ok, []float32{0, 1})
	wantValue(t, "the slots of a plain step", len(slots), 0)
	clipped, length, ok := impl.ClipGradients([]float32{3, 4}, 2.5)
	wantNumbersOk(t, "ClipGradients", clipped, ok, []float32{1.5, 2})
	wantNumber(t, "the length", length, 5)
}

// part has the arguments for the parameters at some indices.
func (s stepArguments) part(indices ...int) stepArguments {
	pick := func(list []float32) (picked []float32) {
		for _, i := range indices {
			picked = append(picked, list[i])
		}
		return picked
	}
	taken := s
	taken.params, taken.gradients, taken.slots = pick(s.params), pick(s.gradients), nil
	for _, slot := range s.slots {
		taken.slots = append(taken.slots, pick(slot))
	}
	return taken
}

// wantPart requires a part of a step to be what the whole step makes there.
func (s stepArguments) wantPart(t *testing.T, what string, indices ...int) {
	t.Helper()
	params, slots, ok := s.step()
	wantValue(t, what+": success", ok, true)
	whole := stepArguments{params: params, gradients: params, slots: slots}.part(indices...)
	got, gotSlots, ok := s.part(indices...).step()
	wantValue(t, what, textOfResult(got, gotSlots, ok), textOfResult(whole.params, whole.slots, true))
}

func TestStepsChangeEachParameterAsAlone(t *testing.T) {
	c := chance(240)
	for _, kind := range allStepKinds() {
		for _, count := range []int{1, 2, 3, 17, 64} {
			for _, arguments := range c.arguments(kind, count) {
				for i := range count {
					arguments.wantPart(t, "a parameter alone", i)
				}
				arguments.wantPart(t, "the last and the first parameter", count-1, 0)
				arguments.wantPart(t, "a parameter several times", 0, 0, count/2, 0)
				arguments.wantPart(t, "no parameters")
			}
		}
		for _, arguments := range c.arguments(kind, impl.MaxNumbers) {
			for range 10 {
				arguments.wantPart(t, "one of MaxNumbers parameters", c.below(impl.MaxNumbers))
			}
		}
	}
}

func TestAnotherParameterDoesNotChangeAParameter(t *testing.T) {
	c := chance(241)
	for _, kind := range allStepKinds() {
		for _, number := range []float32{nan, infinity, -infinity, greatest, 0} {
			arguments := c.arguments(kind, 5)[0]
			before, slotsBefore, _ := arguments.step()
			for place := range 5 {
				changed := arguments.part(0, 1, 2, 3, 4)
				changed.params[place], changed.gradients[place] = number, number
				for _, slot := range changed.slots {
					slot[place] = number
				}
				params, slots, ok := changed.step()
				wantValue(t, "a step with another parameter", ok, true)
				for i := range 5 {
					if i == place {
						continue
					}
					wantNumber(t, "a parameter beside another one", params[i], before[i])
					for k := range slots {
						wantNumber(t, "a slot beside another one", slots[k][i], slotsBefore[k][i])
					}
				}
			}
		}
	}
}

func TestStepsOneAfterAnother(t *testing.T) {
	c := chance(242)
	for _, kind := range allStepKinds() {
		whole := c.arguments(kind, 6)[0]
		whole.slots, _ = impl.EmptySlots(whole.optimizer, 6)
		alone := whole.part(4)
		for steps := range int64(50) {
			whole.steps, alone.steps = steps, steps
			whole.gradients = c.smallList(6)
			alone.gradients = whole.gradients[4:5]
			whole.params, whole.slots, _ = whole.step()
			alone.params, alone.slots, _ = alone.step()
			last := whole.part(4)
			wantValue(t, "steps of a parameter alone", textOfResult(alone.params, alone.slots), textOfResult(last.params, last.slots))
		}
	}
}

// roomyStep returns a copy of s with unused capacity everywhere.
func roomyStep(s stepArguments) stepArguments {
	s.params, s.gradients = roomyList(s.params), roomyList(s.gradients)
	slots := make([][]float32, 0, 8)
	for _, slot := range s.slots {
		slots = append(slots, roomyList(slot))
	}
	for i := len(slots); i < cap(slots); i++ {
		slots[:cap(slots)][i] = []float32{float32(i)}
	}
	s.slots = slots
	return s
}

// rawStep shows all of the arguments of a step, with their unused capacity.
func rawStep(s stepArguments) string {
	var slots [][]uint32
	for _, slot := range s.slots[:cap(s.slots)] {
		slots = append(slots, rawBits(slot))
	}
	return textOfResult(rawBits(s.params), rawBits(s.gradients), slots)
}

// someSteps has valid arguments of steps and others.
func (c *chance) someSteps() map[string]stepArguments {
	list := map[string]stepArguments{}
	for _, kind := range allStepKinds() {
		for _, count := range []int{0, 1, 2, 7, impl.MaxNumbers, impl.MaxNumbers + 1} {
			name := impl.Decimal(int64(count)) + " of kind " + impl.Decimal(kind)
			for i, arguments := range c.arguments(kind, count) {
				list[impl.Decimal(int64(i))+": "+name] = arguments
			}
			arguments := c.arguments(kind, count)[0]
			arguments.slots = append(arguments.slots, filled(count, 1))
			list["a slot more: "+name] = arguments
			arguments = c.arguments(kind, count)[0]
			arguments.gradients = filled(count+1, 1)
			list["a gradient more: "+name] = arguments
			arguments = c.arguments(kind, count)[0]
			arguments.optimizer.Kind = otherStepKinds()[count%10]
			list["another kind: "+name] = arguments
		}
	}
	return list
}

func TestArgumentsOfStepsAreNotChanged(t *testing.T) {
	c := chance(243)
	for name, tight := range c.someSteps() {
		arguments := roomyStep(tight)
		before := rawStep(arguments)
		checkCall(t, "StepParams of "+name, func() (several, bool) {
			params, slots, ok := arguments.step()
			return several{params, slots}, ok
		})
		wantValue(t, "the arguments of "+name, rawStep(arguments), before)
		got, slots, ok := arguments.step()
		want, wantSlots, wantOk := tight.step()
		wantValue(t, "unused capacity at "+name, textOfResult(got, slots, ok), textOfResult(want, wantSlots, wantOk))
	}
}

func TestSlicesOfStepsAreApart(t *testing.T) {
	c := chance(244)
	for name, arguments := range c.someSteps() {
		arguments = roomyStep(arguments)
		params, slots, ok := arguments.step()
		if !ok {
			continue
		}
		parts := append([][]float32{params, arguments.params, arguments.gradients}, slots...)
		wantApart(t, "StepParams of "+name, append(parts, arguments.slots...))
		params, slots, _ = arguments.step()
		before := textOfResult(params, slots)
		clear(arguments.slots[:cap(arguments.slots)])
		wantValue(t, "a step behind a change of the slots", textOfResult(params, slots), before)
		empty, ok := impl.EmptySlots(arguments.optimizer, int64(len(params)))
		wantValue(t, "EmptySlots", ok, true)
		wantApart(t, "EmptySlots of "+name, empty)
	}
}

func TestStepsOfOneListInSeveralPlaces(t *testing.T) {
	c := chance(245)
	for _, kind := range allStepKinds() {
		for _, list := range c.lists(6) {
			same := func() []float32 { return list }
			shared := stepArguments{c.anyOptimizer(kind), list, list, slotsOf(kind, same), c.anySteps()}
			before := rawBits(list)
			shared.check(t)
			wantValue(t, "a list that is shared", slices.Equal(rawBits(list), before), true)
			params, slots, _ := shared.step()
			wantApart(t, "a step of one list", append([][]float32{params, list}, slots...))
		}
	}
}

// listCalls has the functions of chapter 5 with one or two lists of numbers
// and a number.
func listCalls() map[string]func(a, b []float32, x float32) (several, bool) {
	type list = []float32
	return map[string]func(a, b []float32, x float32) (several, bool){
		"LossSquares":   func(a, b list, x float32) (several, bool) { return pair(impl.LossSquares(a, b)) },
		"LossAbsolute":  func(a, b list, x float32) (several, bool) { return pair(impl.LossAbsolute(a, b)) },
		"LossHuber":     func(a, b list, x float32) (several, bool) { return pair(impl.LossHuber(a, b, x)) },
		"LossEntropy":   func(a, b list, x float32) (several, bool) { return pair(impl.LossEntropy(a, int64(len(b))-1)) },
		"ClipGradients": func(a, b list, x float32) (several, bool) { return pair(impl.ClipGradients(a, x)) },
		"GreatestOf": func(a, b list, x float32) (several, bool) {
			index, ok := impl.GreatestOf(a)
			return several{index}, ok
		},
		"DecayParams": func(a, b list, x float32) (several, bool) {
			params, ok := impl.DecayParams(a, x)
			return several{params}, ok
		},
	}
}

// pair has two results of a call.
func pair[A, B any](a A, b B, ok bool) (several, bool) { return several{a, b}, ok }

func TestListsOfLossesAreNotChanged(t *testing.T) {
	c := chance(246)
	counts := []int{0, 1, 2, 3, 8, 9, impl.MaxNumbers, impl.MaxNumbers + 1}
	for name, call := range listCalls() {
		for _, first := range counts {
			for _, second := range counts {
				for _, list := range c.lists(first) {
					a, b := roomyList(list), roomyList(c.anyList(second))
					beforeA, beforeB := rawBits(a), rawBits(b)
					for _, x := range append(c.smallList(2), c.anyList(2)...) {
						checkCall(t, name, func() (several, bool) { return call(a, b, x) })
						checkCall(t, name+" of one twice", func() (several, bool) { return call(a, a, x) })
						got, ok := call(a, b, x)
						want, wantOk := call(slices.Clip(a), slices.Clip(b), x)
						wantValue(t, name+" with unused capacity", textOfResult(got, ok), textOfResult(want, wantOk))
					}
					if !slices.Equal(rawBits(a), beforeA) || !slices.Equal(rawBits(b), beforeB) {
						t.Errorf("%s of %d and %d numbers changes its arguments", name, first, second)
					}
				}
			}
		}
	}
}

// Gradients that are not too long, and parameters that stay, are copies too.
func TestListsThatStayAreCopies(t *testing.T) {
	list := roomyList([]float32{3, 4})
	for _, most := range []float32{1, 5, infinity, nan} {
		clipped, _, _ := impl.ClipGradients(list, most)
		wantApart(t, "ClipGradients", [][]float32{clipped, list})
		list = roomyList([]float32{3, 4})
	}
	decayed, _ := impl.DecayParams(list, 0)
	wantApart(t, "DecayParams", [][]float32{decayed, list})
}

func TestEachFunctionOfLossesReturnsTheSameForAllIntegers(t *testing.T) {
	integers := append(anyIntegers(), 3, 4, 5, 6, 7, 8, 999, 1000, 1001, -2)
	numbers := []float32{1, -2, 0.5}
	for _, n := range integers {
		checkCall(t, "ValidOptimizer", func() (bool, bool) { return alone(impl.ValidOptimizer(impl.Optimizer{Kind: n})) })
		checkCall(t, "LossEntropy", func() (several, bool) { return pair(impl.LossEntropy(numbers, n)) })
		for _, x := range edges() {
			checkCall(t, "PowerOf", func() (float32, bool) { return impl.PowerOf(x, n) })
		}
		for _, m := range integers {
			o := optimizer(n, 0.5, 0.9, 0.999, 0)
			checkCall(t, "EmptySlots", func() ([][]float32, bool) { return impl.EmptySlots(o, m) })
			for slots := range 3 {
				list := slices.Repeat([][]float32{numbers}, slots)
				checkCall(t, "StepParams", func() (several, bool) { return pair(impl.StepParams(o, numbers, numbers, list, m)) })
			}
			for _, k := range integers {
				checkCall(t, "RateAt", func() (float32, bool) { return impl.RateAt(0.7, n, m, k) })
			}
		}
	}
}
