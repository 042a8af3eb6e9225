package tests

import (
	"math"
	"slices"
	"testing"

	"loop.example/g01157/impl"
)

func (a trainArguments) wantFailed(t *testing.T, what string, steps int64) {
	t.Helper()
	got, losses, ok := a.train(steps)
	wantFailed(t, "TrainSome with "+what, several{got, losses}, ok)
}

func (a trainArguments) check(t *testing.T, what string, steps int64) {
	t.Helper()
	want, wantLosses := a.byRule(steps)
	got, losses, ok := a.train(steps)
	wantStateOk(t, "TrainSome of "+what, got, ok, want)
	wantNumbersOk(t, "TrainSome of "+what+": losses", losses, ok, wantLosses)
}

// Bits that are told have been computed apart from this program, in 32-bit
// numbers of another language.
func TestTrainingsWithToldBits(t *testing.T) {
	for _, c := range []struct {
		kind           int64
		params, losses []uint32
		slots          [][]uint32
	}{
		{
			impl.StepPlain,
			[]uint32{0x3d97fc9c, 0xbf220923, 0x3f9e13e2, 0x3e967dd0, 0xbe8b1e1d, 0x3f60383c, 0xbace7e88, 0xbce59726, 0x3e844fea, 0x3f86fd3a, 0x3f0e41d4, 0xbfd848c0, 0x3e9f20c8, 0x3f0c4df2, 0xbeb32a49, 0x3fefa5a5, 0xbf3791e2, 0x3e5f4402, 0x3d8ce09c, 0xbe3ebc97},
			[]uint32{0x403e3019, 0x3e1d4c44, 0x40215664, 0x3de89e01, 0x3f079da4, 0x405b73f7, 0x3efe4529},
			nil,
		},
		{
			impl.StepMomentum,
			[]uint32{0x3cbc0632, 0xbeffd57f, 0x3f8f0ba5, 0x3e652d2d, 0xbebf0991, 0x3f567fe3, 0xbdd5301a, 0xbd6d0b3f, 0x3e49a3f4, 0x3f774592, 0x3e901754, 0xbfd5f430, 0x3eab1a81, 0x3ee85eb7, 0xbe818dd0, 0x3fe8aa4a, 0xbf1066b4, 0x3e7df8f8, 0x3c44f369, 0xbe252a80},
			[]uint32{0x403e3019, 0x3e1d4c44, 0x400aeef4, 0x3daa40d1, 0x3eb8ab3f, 0x3fd0afa6, 0x3e7bbc6b},
			[][]uint32{{0x3fadc648, 0xc061e829, 0x404148a4, 0x3fe41c1c, 0x4009869f, 0x3f485713, 0x402dc648, 0x3f47724e, 0x3fa4d61a, 0x400e34e8, 0x40f0fd63, 0xbeb55351, 0xbf422130, 0x4016a9e5, 0xc01198f6, 0x3fb12cb0, 0xc0823e8e, 0xbf9752d0, 0x3fa598eb, 0xbf5549b6}},
		},
		{
			impl.StepSquares,
			[]uint32{0x3d95e063, 0xbf2c55a6, 0x3fa35b78, 0x3e9aae08, 0xbe64e333, 0x3f5d502c, 0x3cbde7f6, 0xbce9af4d, 0x3e8b0e46, 0x3f89668f, 0x3f2cee26, 0xbfd51100, 0x3ea7df3b, 0x3f1359f1, 0xbebb076f, 0x3fefcb0c, 0xbf468598, 0x3e585638, 0x3d89b257, 0xbe43d52d},
			[]uint32{0x403e3019, 0x3e0f14f2, 0x402ef6e4, 0x3dde0220, 0x3f1370de, 0x4084b014, 0x3f0b9569},
			[][]uint32{{0x3fea60f8, 0x41460cd1, 0x41bd5b89, 0x4064c882, 0x41b6e64f, 0x3f87380e, 0x40ea60f8, 0x4094cd6b, 0x40a836a0, 0x40bd5cd8, 0x42bd5a6d, 0x3e2fd389, 0x3e91917d, 0x4150cfc5, 0x40973bf8, 0x400e20fa, 0x420692a4, 0x402b97b3, 0x40508995, 0x410095b5}},
		},
		{
			impl.StepMean,
			[]uint32{0xbdbc8c82, 0xbf020808, 0x3f5f9b00, 0xbd28ef84, 0xbf09cc2a, 0x3f399c71, 0xbe117975, 0xbefb1f3a, 0x3d6454c8, 0x3f51a505, 0x3e885df2, 0xbfbf96ad, 0x3f63c191, 0x3e509792, 0xbec66d3f, 0x3fc8f4cd, 0xbeb70665, 0x3ec6a94c, 0x3e245546, 0xbd8b7a88},
			[]uint32{0x403e3019, 0x3fba4004, 0x3f21865f, 0x3eb9dbf2, 0x3e0a129a, 0x3f470768, 0x3e1d591a},
			[][]uint32{{0x3a1cb91d, 0x3b846e56, 0x3b8a4989, 0x3aa03685, 0x3b98c72a, 0x3a14e3d4, 0x3b1cb91d, 0x39bf6063, 0x3a9b42b7, 0x3af25522, 0x3c9ba28e, 0x390aa3e4, 0x38c5955b, 0x3b327c9f, 0x3b5e812e, 0x3a34092f, 0x3bd7c6e8, 0x3bfe0e45, 0x3af0c265, 0x3b9f66cb}},
		},
		{
			impl.StepAdam,
			[]uint32{0x3d40e3de, 0xbf25a7d7, 0x3fa018cc, 0x3e8d2c1b, 0xbe7e807a, 0x3f55cf9f, 0xbb3e8f04, 0xbd58129c, 0x3e79cae9, 0x3f860ee9, 0x3f2660fa, 0xbfd18be8, 0x3eb50ec7, 0x3f0cc5e3, 0xbeaf1d30, 0x3fec736a, 0xbf3ffbc3, 0x3e5d981b, 0x3d1f0197, 0xbe32e152},
			[]uint32{0x403e3019, 0x3e0f14f2, 0x4025f59c, 0x3dcca3aa, 0x3f020e5a, 0x4061867b, 0x3ede5be8},
			[][]uint32{
				{0x3e386f4f, 0xbeefc3e4, 0x3eff964e, 0x3e8e52d3, 0x3f05d11b, 0x3e15c16a, 0x3eb86f4f, 0x3e0d25a6, 0x3e9061ae, 0x3ea127de, 0x3f87e204, 0xbd55df47, 0xbda11c32, 0x3ec6d28d, 0xbe93ecaa, 0x3e46e988, 0xbf22edb0, 0xbdd53768, 0x3e561e05, 0xbdd0053d},
				{0x3acd2f4f, 0x3c2d6194, 0x3c9ded04, 0x3b5032a0, 0x3c9ddcab, 0x3a672765, 0x3bcd2f4f, 0x3b6d3a7b, 0x3b91188b, 0x3ba0db84, 0x3da037d8, 0x39004815, 0x3990a659, 0x3c2a0ce0, 0x3b81ee11, 0x3af34825, 0x3ce76a45, 0x3b1ed164, 0x3b3450ed, 0x3be87f34},
			},
		},
	} {
		var slots [][]float32
		for _, slot := range c.slots {
			slots = append(slots, numbersOf(slot))
		}
		told := toldTraining(c.kind)
		got, losses, ok := told.train(7)
		wantStateOk(t, "a told training", got, ok, state(withParamsByRule(told.state.Model, numbersOf(c.params)), slots, 7, 7, 1))
		wantNumbersOk(t, "the losses of a told training", losses, ok, numbersOf(c.losses))
		loss, ok := impl.EvaluateModel(told.state.Model, told.data)
		wantNumberOk(t, "the loss before a told training", loss, ok, of(0x40022fb7))
	}
}

func TestTrainSome(t *testing.T) {
	c := chance(420)
	for range 3 {
		for name, arguments := range c.trainings() {
			arguments.check(t, name, int64(c.below(6)))
		}
	}
}

func TestTrainSomeOfEachNumberOfSteps(t *testing.T) {
	for _, kind := range allStepKinds() {
		told := toldTraining(kind)
		told.state.Scale = of(0xffc00001)
		for steps := int64(0); steps <= impl.MaxOnce; steps++ {
			told.check(t, "a told training", steps)
		}
		for _, steps := range []int64{-1, -2, impl.MaxOnce + 1, impl.MaxOnce + 2, 1000, 1 << 32, math.MaxInt64, math.MinInt64} {
			told.wantFailed(t, "another number of steps", steps)
		}
	}
}

// The steps that are behind and those that are made are at most MaxSteps.
func TestTrainSomeUpToMaxSteps(t *testing.T) {
	for _, kind := range allStepKinds() {
		told := toldTraining(kind)
		for _, before := range []int64{impl.MaxSteps, impl.MaxSteps - 1, impl.MaxSteps - 2, impl.MaxSteps - impl.MaxOnce + 1, impl.MaxSteps - impl.MaxOnce, impl.MaxSteps - impl.MaxOnce - 1} {
			told.state.Steps = before
			for steps := int64(-1); steps <= impl.MaxOnce+1; steps++ {
				if steps < 0 || steps > impl.MaxOnce || before+steps > impl.MaxSteps {
					told.wantFailed(t, "more than MaxSteps", steps)
				} else {
					told.check(t, "MaxSteps", steps)
				}
			}
		}
		for _, before := range otherStepCounts() {
			told.state.Steps = before
			for _, steps := range []int64{-1, 0, 1, impl.MaxOnce} {
				told.wantFailed(t, "Steps that are no number of them", steps)
			}
		}
	}
}

func TestTrainSomeWithEachBatch(t *testing.T) {
	c := chance(421)
	m := c.trainable()["each kind"]
	for rows := int64(1); rows <= impl.MaxSide; rows++ {
		for batch := int64(1); batch <= impl.MaxSide; batch++ {
			arguments := c.training(m, int64(c.below(5)), rows, c.smallList)
			arguments.batch = batch
			arguments.check(t, "each batch", 1+(rows+batch-1)/batch)
		}
	}
	for _, batch := range otherSides() {
		for _, steps := range []int64{0, 1, impl.MaxOnce} {
			arguments := c.training(m, impl.StepPlain, 3, c.smallList)
			arguments.batch = batch
			arguments.wantFailed(t, "another batch", steps)
		}
	}
}

func TestTrainSomeWithEachSeed(t *testing.T) {
	c := chance(422)
	arguments := toldTraining(impl.StepMomentum)
	arguments.batch = 1
	for _, seed := range append(seeds(), c.seed(), c.seed(), c.seed()) {
		arguments.state.Seed = seed
		for _, before := range []int64{0, 1, 2, 3, 500} {
			arguments.state.Steps = before
			arguments.check(t, "each seed", 7)
		}
	}
	for _, seed := range otherSeeds() {
		arguments.state.Seed = seed
		for _, steps := range []int64{0, 1} {
			arguments.wantFailed(t, "another seed", steps)
		}
	}
}

func TestScaleAndSeedStay(t *testing.T) {
	c := chance(423)
	for _, scale := range edges() {
		for _, steps := range []int64{0, 1, 5} {
			arguments := toldTraining(int64(c.below(5)))
			arguments.state.Scale, arguments.state.Seed = scale, c.seed()
			got, _, ok := arguments.train(steps)
			wantNumberOk(t, "Scale", got.Scale, ok, scale)
			wantValue(t, "Seed", got.Seed, arguments.state.Seed)
			wantValue(t, "Steps", got.Steps, steps)
		}
	}
}

func TestTrainSomeOfOneNumber(t *testing.T) {
	c := chance(424)
	plain := optimizer(impl.StepPlain, 0.0625, nan, nan, nan)
	for _, numbers := range []struct{ w, x, goal, loss, want float32 }{
		{2, 3, 5, 1, 1.625},
		{2, 3, 6, 0, 2},
		{minusZero, 3, 0, 0, minusZero},
		{nan, 1, 0, nan, nan},
		{1, nan, 0, nan, nan},
		{1, 1, nan, nan, nan},
		{1, infinity, 0, infinity, -infinity},
		{0, infinity, 0, nan, nan},
		{infinity, 1, 0, infinity, nan},
		{1, 1, infinity, infinity, infinity},
		{1e20, 1, 0, infinity, 1e20 - float32(0.0625)*(2e20)},
	} {
		m := model(layer(impl.LayerScale, 1, 1, []float32{numbers.w}, nil))
		data := examples(tensor(1, 1, numbers.x), tensor(1, 1, numbers.goal))
		got, losses, ok := trainArguments{plain, data, 1 + int64(c.below(16)), state(m, nil, 9, 3, 1)}.train(1)
		wantNumbersOk(t, "the loss of one number", losses, ok, []float32{numbers.loss})
		wantStateOk(t, "a training of one number", got, ok, state(model(layer(impl.LayerScale, 1, 1, []float32{numbers.want}, nil)), nil, 10, 3, 1))
	}
}

func TestTrainSomeWithoutParameters(t *testing.T) {
	c := chance(425)
	for _, kind := range allStepKinds() {
		arguments := c.training(model(c.smallLayer(impl.LayerRelu, 4, 4), c.smallLayer(impl.LayerRelu, 4, 4)), kind, 5, c.smallList)
		arguments.check(t, "a model without parameters", 7)
		got, losses, ok := arguments.train(7)
		wantOk(t, "the losses without parameters", len(losses), ok, 7)
		wantModelOk(t, "a model without parameters", got.Model, ok, arguments.state.Model)
	}
}

// wantOnlyNoSteps requires a training without steps to succeed, where one
// with steps fails, as no gradients are asked for.
func (a trainArguments) wantOnlyNoSteps(t *testing.T, what string) {
	t.Helper()
	got, losses, ok := a.train(0)
	wantStateOk(t, "TrainSome without steps of "+what, got, ok, a.state)
	wantValue(t, "TrainSome without steps of "+what+": losses", len(losses), 0)
	for _, steps := range []int64{1, 2, impl.MaxOnce} {
		a.wantFailed(t, what, steps)
	}
}

func TestModelsThatCannotTrain(t *testing.T) {
	c := chance(426)
	for _, kind := range []int64{impl.LayerTanh, impl.LayerSoftmax, impl.LayerNorm} {
		for place := range 3 {
			layers := []impl.Layer{c.smallLayer(0, 2, 2), c.smallLayer(1, 2, 2), c.smallLayer(2, 2, 2)}
			layers[place] = c.smallLayer(kind, 2, 2)
			for _, stepKind := range allStepKinds() {
				c.training(model(layers...), stepKind, 3, c.smallList).wantOnlyNoSteps(t, "another kind of layer")
			}
		}
	}
}

func TestDataThatDoNotFitATraining(t *testing.T) {
	c := chance(427)
	for name, m := range c.trainable() {
		valid := c.training(m, int64(c.below(5)), 3, c.smallList)
		for columns := int64(1); columns <= impl.MaxSide; columns++ {
			other := valid
			if other.data.Inputs = c.smallTensor(3, columns); columns != valid.data.Inputs.Columns {
				other.wantOnlyNoSteps(t, name+" and other Inputs")
			}
			other = valid
			if other.data.Targets = c.smallTensor(3, columns); columns != valid.data.Targets.Columns {
				other.wantOnlyNoSteps(t, name+" and other Targets")
			}
		}
		for _, steps := range []int64{0, 1, 3} {
			other := valid
			other.data.Inputs = c.smallTensor(4, valid.data.Inputs.Columns)
			other.wantFailed(t, name+" and other rows of Inputs", steps)
			other = valid
			other.data.Targets = c.smallTensor(2, valid.data.Targets.Columns)
			other.wantFailed(t, name+" and other rows of Targets", steps)
			for kind, broken := range brokenTensors() {
				other = valid
				other.data.Inputs = broken
				other.wantFailed(t, name+" and Inputs: "+kind, steps)
				other.data.Targets = broken
				other.wantFailed(t, name+" and both: "+kind, steps)
				other.data.Inputs = valid.data.Inputs
				other.wantFailed(t, name+" and Targets: "+kind, steps)
			}
		}
	}
}

func TestBrokenStatesCannotTrain(t *testing.T) {
	c := chance(428)
	for _, steps := range []int64{0, 1, 2} {
		for _, kind := range allStepKinds() {
			valid := c.training(c.trainable()["a net"], kind, 3, c.smallList)
			for what, broken := range brokenStates(valid.state) {
				other := valid
				other.state = broken
				other.wantFailed(t, what, steps)
			}
			for _, otherKind := range append(allStepKinds(), otherStepKinds()...) {
				other := valid
				other.optimizer.Kind = otherKind
				if otherKind < 0 || otherKind > 4 || slotsByRule(otherKind) != slotsByRule(kind) {
					other.wantFailed(t, "another optimiser", steps)
				}
			}
			for name, broken := range brokenModels() {
				other := valid
				other.state.Model, other.state.Slots = broken, emptySlots(kind, broken)
				other.wantFailed(t, name, steps)
			}
		}
	}
}

func TestEvaluateModel(t *testing.T) {
	c := chance(429)
	for name, m := range c.tapedModels() {
		for _, rows := range []int64{1, 2, 7, impl.MaxSide} {
			for _, list := range []func(int) []float32{c.smallList, c.mixedList, c.anyList} {
				data := dataFor(m, rows, list)
				loss, ok := impl.EvaluateModel(m, data)
				wantNumberOk(t, "EvaluateModel of "+name, loss, ok, lossByRule(m, data.Inputs, data.Targets))
			}
		}
	}
}

// evaluations has both functions that take a model and data.
func evaluations() map[string]func(m impl.Model, data impl.Examples) (any, bool) {
	return map[string]func(m impl.Model, data impl.Examples) (any, bool){
		"EvaluateModel": func(m impl.Model, data impl.Examples) (any, bool) { return first(impl.EvaluateModel(m, data)) },
		"CountCorrect":  func(m impl.Model, data impl.Examples) (any, bool) { return first(impl.CountCorrect(m, data)) },
	}
}

func first[T any](value T, ok bool) (any, bool) { return value, ok }

func TestEvaluationsOfOtherModelsAndData(t *testing.T) {
	c := chance(430)
	for function, call := range evaluations() {
		want := func(what string, m impl.Model, data impl.Examples) {
			t.Helper()
			got, ok := call(m, data)
			wantFailed(t, function+" of "+what, got, ok)
		}
		for name, broken := range brokenModels() {
			for size := int64(1); size <= 3; size++ {
				want(name, broken, examples(c.smallTensor(2, size), c.smallTensor(2, size)))
			}
		}
		for name, m := range c.tapedModels() {
			valid := dataFor(m, 2, c.smallList)
			for size := int64(1); size <= impl.MaxSide; size++ {
				if size != valid.Inputs.Columns {
					want(name+" and other Inputs", m, examples(c.smallTensor(2, size), valid.Targets))
				}
				if size != valid.Targets.Columns {
					want(name+" and other Targets", m, examples(valid.Inputs, c.smallTensor(2, size)))
				}
				if size != 2 {
					want(name+" and other rows of Inputs", m, examples(c.smallTensor(size, valid.Inputs.Columns), valid.Targets))
					want(name+" and other rows of Targets", m, examples(valid.Inputs, c.smallTensor(size, valid.Targets.Columns)))
				}
			}
			for kind, broken := range brokenTensors() {
				want(name+" and Inputs: "+kind, m, examples(broken, valid.Targets))
				want(name+" and Targets: "+kind, m, examples(valid.Inputs, broken))
				want(name+" and both: "+kind, m, examples(broken, broken))
			}
		}
	}
	for _, kind := range []int64{impl.LayerTanh, impl.LayerSoftmax, impl.LayerNorm} {
		m := model(c.smallLayer(0, 2, 2), c.smallLayer(kind, 2, 2))
		loss, ok := impl.EvaluateModel(m, dataFor(m, 2, c.smallList))
		wantFailed(t, "EvaluateModel of another kind of layer", loss, ok)
		_, ok = impl.CountCorrect(m, dataFor(m, 2, c.smallList))
		wantValue(t, "CountCorrect of another kind of layer: success", ok, true)
	}
}

// placeByRule has the first place of the number that LayerSoftmax calls m.
func placeByRule(list []float32) int {
	most := mostByRule(list)
	return slices.IndexFunc(list, func(x float32) bool { return x == most || isNan(x) && isNan(most) })
}

func TestCountCorrect(t *testing.T) {
	c := chance(431)
	for name, m := range c.models() {
		for _, rows := range []int64{1, 2, 7, impl.MaxSide} {
			for _, list := range []func(int) []float32{c.smallList, c.mixedList, c.anyList} {
				data := dataFor(m, rows, list)
				want := int64(0)
				for row := range rows {
					stages := stagesByRule(m, rowTensor(data.Inputs, row).Data)
					if placeByRule(stages[len(stages)-1]) == placeByRule(rowTensor(data.Targets, row).Data) {
						want++
					}
				}
				got, ok := impl.CountCorrect(m, data)
				wantOk(t, "CountCorrect of "+name, got, ok, want)
				made, _ := impl.RunModel(m, data.Inputs)
				got, ok = impl.CountCorrect(m, examples(data.Inputs, made))
				wantOk(t, "CountCorrect of what the model makes", got, ok, rows)
			}
		}
	}
}

// The layer makes of three numbers the same ones.
func TestCountCorrectOfToldRows(t *testing.T) {
	same := model(layer(impl.LayerScale, 3, 3, []float32{1, 1, 1}, nil))
	for _, c := range []struct {
		name            string
		inputs, targets []float32
		want            int64
	}{
		{"the same place", []float32{1, 3, 2}, []float32{0, 9, 8}, 1},
		{"another place", []float32{1, 3, 2}, []float32{0, 8, 9}, 0},
		{"the first of equal ones", []float32{3, 3, 3}, []float32{5, 5, 4}, 1},
		{"a later one of equal ones", []float32{1, 3, 3}, []float32{1, 2, 5}, 0},
		{"both zeros", []float32{minusZero, 0, minusZero}, []float32{1, 0, 0}, 1},
		{"a not-a-number first", []float32{nan, 3, 5}, []float32{1, 0, 0}, 1},
		{"a not-a-number behind", []float32{1, nan, 5}, []float32{0, 0, 1}, 1},
		{"a not-a-number last", []float32{1, 2, nan}, []float32{0, 1, 0}, 1},
		{"not-a-numbers alone", []float32{nan, nan, nan}, []float32{nan, 7, 8}, 1},
		{"a target that is none", []float32{1, 2, 3}, []float32{nan, 7, 8}, 0},
		{"infinities", []float32{-infinity, infinity, 3}, []float32{-infinity, -5, -infinity}, 1},
		{"two rows", []float32{1, 2, 3, 3, 2, 1}, []float32{0, 0, 1, 1, 0, 0}, 2},
		{"one of two rows", []float32{1, 2, 3, 3, 2, 1}, []float32{1, 0, 0, 1, 0, 0}, 1},
		{"rows exchanged", []float32{1, 2, 3, 3, 2, 1}, []float32{1, 0, 0, 0, 0, 1}, 0},
	} {
		rows := int64(len(c.inputs) / 3)
		got, ok := impl.CountCorrect(same, examples(tensor(rows, 3, c.inputs...), tensor(rows, 3, c.targets...)))
		wantOk(t, "CountCorrect, "+c.name, got, ok, c.want)
	}
}
