package tests

import (
	"fmt"
	"slices"
	"testing"

	"loop.example/g01157/impl"
)

func TestExamplesOfChapter7(t *testing.T) {
	next, ok := impl.NextSeed(0)
	wantOk(t, "the next seed of 0", next, ok, 12345)
	rows, last, ok := impl.ShuffleRows(2, 0)
	wantListOk(t, "two rows shuffled by the seed 0", rows, ok, []int64{1, 0})
	wantValue(t, "their last seed", last, 12345)
	for _, seed := range seeds() {
		for step := range int64(impl.MaxSteps + 1) {
			rows, ok := impl.BatchOf(3, 2, seed, step)
			wantOk(t, "3 rows and the batch 2", int64(len(rows)), ok, 2-step%2)
		}
	}
}

// wantParts requires a training in two parts to be the whole one.
func (a trainArguments) wantParts(t *testing.T, what string, first, second int64) {
	t.Helper()
	want, wantLosses, ok := a.train(first + second)
	wantValue(t, what+" at once: success", ok, true)
	between, losses, ok := a.train(first)
	wantValue(t, what+" in its first part: success", ok, true)
	wantValue(t, what+" in between is valid", impl.ValidTraining(a.optimizer, between), true)
	a.state = between
	got, others, ok := a.train(second)
	wantStateOk(t, what+" in two parts", got, ok, want)
	wantNumbersOk(t, what+" in two parts: losses", append(losses, others...), ok, wantLosses)
	wantValue(t, what+" in two parts is the same", impl.SameTraining(got, want), true)
}

func TestTrainingsGoOnFromAnyState(t *testing.T) {
	c := chance(450)
	for name, arguments := range c.trainings() {
		first := int64(c.below(8))
		arguments.wantParts(t, name, first, int64(c.below(8)))
		arguments.wantParts(t, name+" from no steps", 0, first)
		arguments.wantParts(t, name+" with no steps behind", first, 0)
	}
	for _, kind := range allStepKinds() {
		for first := int64(0); first <= impl.MaxOnce; first++ {
			toldTraining(kind).wantParts(t, "a told training", first, impl.MaxOnce-first)
		}
	}
}

// inParts makes MaxSteps steps, in parts of as many as size tells.
func (a trainArguments) inParts(t *testing.T, size func() int64) (impl.TrainState, []float32) {
	t.Helper()
	var losses []float32
	for made := int64(0); made < impl.MaxSteps; {
		steps := min(size(), impl.MaxSteps-made)
		next, more, ok := a.train(steps)
		wantOk(t, "the Steps behind a part", next.Steps, ok, made+steps)
		a.state = next
		losses = append(losses, more...)
		made += steps
	}
	a.wantFailed(t, "MaxSteps and one more", 1)
	return a.state, losses
}

// A training of MaxSteps steps is the same one, however it is divided.
func TestTrainingsInManyParts(t *testing.T) {
	c := chance(451)
	for _, kind := range allStepKinds() {
		told := toldTraining(kind)
		want, wantLosses := told.inParts(t, func() int64 { return impl.MaxOnce })
		for name, size := range map[string]func() int64{
			"one by one": func() int64 { return 1 },
			"in parts":   func() int64 { return int64(c.below(impl.MaxOnce + 1)) },
		} {
			got, losses := told.inParts(t, size)
			wantStateOk(t, "MaxSteps steps "+name, got, true, want)
			wantNumbersOk(t, "the losses "+name, losses, true, wantLosses)
		}
	}
}

// Each step takes no more than the functions that the document names.
func TestStepsOfTrainingsAreThoseOfTheirFunctions(t *testing.T) {
	c := chance(452)
	for name, a := range c.trainings() {
		steps := int64(1 + c.below(4))
		got, losses, _ := a.train(steps)
		for i := range steps {
			rows, _ := impl.BatchOf(a.data.Inputs.Rows, a.batch, a.state.Seed, a.state.Steps)
			batch, _ := impl.PickRows(a.data, rows)
			gradients, loss, _ := impl.ModelGradients(a.state.Model, batch.Inputs, batch.Targets)
			wantNumber(t, "the loss of a step of "+name, losses[i], loss)
			loss, _ = impl.EvaluateModel(a.state.Model, batch)
			wantNumber(t, "the loss of a batch of "+name, losses[i], loss)
			params, _ := impl.ParamsOf(a.state.Model)
			params, a.state.Slots, _ = impl.StepParams(a.optimizer, params, gradients, a.state.Slots, a.state.Steps)
			a.state.Model, _ = impl.WithParams(a.state.Model, params)
			a.state.Steps++
		}
		wantStateOk(t, "the steps of "+name, got, true, a.state)
	}
}

func roomySlots(slots [][]float32) [][]float32 { return roomyStep(stepArguments{slots: slots}).slots }

// roomyTraining returns a copy of a with unused capacity everywhere.
func roomyTraining(a trainArguments) trainArguments {
	a.data = examples(roomy(a.data.Inputs), roomy(a.data.Targets))
	a.state.Model, a.state.Slots = roomyModel(a.state.Model), roomySlots(a.state.Slots)
	return a
}

// rawTraining shows all of a, with its unused capacity.
func rawTraining(a trainArguments) string {
	return modelText(a.state.Model) + rawStep(stepArguments{params: a.data.Inputs.Data, gradients: a.data.Targets.Data, slots: a.state.Slots})
}

type trainCall func(a trainArguments, steps int64) (several, bool)

// trainCalls has the functions of chapter 7 with a model, a state or data.
func trainCalls() map[string]trainCall {
	one := func(result any, ok bool) (several, bool) { return several{result}, ok }
	return map[string]trainCall{
		"TrainSome": func(a trainArguments, steps int64) (several, bool) { return pair(a.train(steps)) },
		"NewTraining": func(a trainArguments, steps int64) (several, bool) {
			return one(first(impl.NewTraining(a.state.Model, a.optimizer, a.state.Seed)))
		},
		"ValidTraining": func(a trainArguments, steps int64) (several, bool) {
			return one(impl.ValidTraining(a.optimizer, a.state), true)
		},
		"SameTraining": func(a trainArguments, steps int64) (several, bool) {
			other := a.state
			other.Steps = steps
			return several{impl.SameTraining(a.state, other), impl.SameTraining(a.state, a.state)}, true
		},
		"ValidExamples": func(a trainArguments, steps int64) (several, bool) { return one(impl.ValidExamples(a.data), true) },
		"PickRows": func(a trainArguments, steps int64) (several, bool) {
			return one(first(impl.PickRows(a.data, []int64{0, steps, 0})))
		},
		"EvaluateModel": func(a trainArguments, steps int64) (several, bool) {
			return one(first(impl.EvaluateModel(a.state.Model, a.data)))
		},
		"CountCorrect": func(a trainArguments, steps int64) (several, bool) {
			return one(first(impl.CountCorrect(a.state.Model, a.data)))
		},
	}
}

// someTrainings has valid arguments of trainings and others.
func (c *chance) someTrainings() map[string]trainArguments {
	list := c.trainings()
	told := toldTraining(impl.StepAdam)
	for name, broken := range brokenModels() {
		other := told
		other.state.Model = broken
		list["broken: "+name] = other
	}
	for name, broken := range brokenStates(told.state) {
		other := told
		other.state = broken
		list["broken: "+name] = other
	}
	for name, broken := range brokenTensors() {
		other := told
		other.data.Inputs = broken
		list["Inputs: "+name] = other
		other.data.Targets = broken
		list["both: "+name] = other
	}
	twice := told
	twice.state.Slots = slices.Repeat(told.state.Slots[:1], 2)
	list["one slot twice"] = twice
	shared := c.smallLayer(impl.LayerScale, 2, 2)
	weights := shared.Weights
	twice.state.Model = model(shared, shared, layer(impl.LayerDense, 2, 1, weights, weights[:1]))
	twice.state.Slots = [][]float32{filled(7, 0), filled(7, 0)}
	twice.data = examples(tensor(1, 2, weights...), tensor(1, 1, weights[:1]...))
	list["one list in several places"] = twice
	return list
}

func TestArgumentsOfTrainingsAreNotChanged(t *testing.T) {
	c := chance(453)
	for name, tight := range c.someTrainings() {
		arguments := roomyTraining(tight)
		before, beforeTight := rawTraining(arguments), rawTraining(tight)
		for function, call := range trainCalls() {
			for _, steps := range []int64{0, 1, 3} {
				checkCall(t, function+" of "+name, func() (several, bool) { return call(arguments, steps) })
				checkCall(t, function+" of "+name, func() (several, bool) { return call(tight, steps) })
				got, ok := call(arguments, steps)
				want, wantOk := call(tight, steps)
				wantValue(t, function+" with unused capacity of "+name, textOfResult(got, ok), textOfResult(want, wantOk))
			}
		}
		wantValue(t, "the arguments of "+name, rawTraining(arguments), before)
		wantValue(t, "the arguments without capacity of "+name, rawTraining(tight), beforeTight)
	}
}

func listsOf(t impl.TrainState) [][]float32 { return append(paramLists(t.Model), t.Slots...) }

func TestSlicesOfTrainingsAreApart(t *testing.T) {
	c := chance(454)
	for name, arguments := range c.trainings() {
		for _, steps := range []int64{0, 1, 2} {
			a := roomyTraining(arguments)
			got, losses, ok := a.train(steps)
			wantValue(t, "TrainSome of "+name, ok, true)
			fresh, ok := impl.NewTraining(a.state.Model, a.optimizer, a.state.Seed)
			wantValue(t, "NewTraining of "+name, ok, true)
			parts := slices.Concat(listsOf(got), listsOf(fresh), listsOf(a.state))
			wantApart(t, "a training of "+name, append(parts, losses, a.data.Inputs.Data, a.data.Targets.Data))
			before := textOfResult(a.state)
			for _, made := range []impl.TrainState{got, fresh} {
				clear(made.Model.Layers[:cap(made.Model.Layers)])
				clear(made.Slots[:cap(made.Slots)])
				wantValue(t, "the state of "+name, textOfResult(a.state), before)
			}
		}
	}
}

func TestSlicesOfLoadersAreApart(t *testing.T) {
	c := chance(455)
	for _, count := range []int64{1, 2, 3, impl.MaxSide} {
		data := examples(roomy(c.smallTensor(count, 2)), roomy(c.smallTensor(count, 3)))
		rows := roomyIntegers(make([]int64, count))
		for i := range rows {
			rows[i] = int64(c.below(int(count)))
		}
		before := textOfResult(rawIntegers(rows), rawBits(data.Inputs.Data), rawBits(data.Targets.Data))
		picked, ok := impl.PickRows(data, rows)
		wantExamplesOk(t, "PickRows with unused capacity", picked, ok, examples(rowsByRule(data.Inputs, rows), rowsByRule(data.Targets, rows)))
		checkCall(t, "PickRows", func() (impl.Examples, bool) { return impl.PickRows(data, rows) })
		wantValue(t, "the arguments of PickRows", textOfResult(rawIntegers(rows), rawBits(data.Inputs.Data), rawBits(data.Targets.Data)), before)
		wantApart(t, "PickRows", [][]float32{picked.Inputs.Data, picked.Targets.Data, data.Inputs.Data, data.Targets.Data})
		both := examples(data.Inputs, data.Inputs)
		picked, _ = impl.PickRows(both, rows)
		wantApart(t, "PickRows of one tensor twice", [][]float32{picked.Inputs.Data, picked.Targets.Data, data.Inputs.Data})
		shuffled, _, _ := impl.ShuffleRows(count, 3)
		again, _, _ := impl.ShuffleRows(count, 3)
		first, _ := impl.BatchOf(count, 2, 3, 0)
		second, _ := impl.BatchOf(count, 2, 3, 0)
		wantApart(t, "rows", [][]int64{shuffled, again, first, second})
	}
}

func TestLossesAreNotChanged(t *testing.T) {
	c := chance(456)
	for _, count := range []int{0, 1, 2, 7, 40, impl.MaxNumbers, impl.MaxNumbers + 1} {
		for _, list := range c.someLosses(count) {
			losses := roomyList(list)
			before := fmt.Sprint(rawBits(losses))
			for _, patience := range []int64{-1, 0, 1, 2, 5, impl.MaxNumbers, impl.MaxNumbers + 1} {
				checkCall(t, "BestStep", func() (int64, bool) { return impl.BestStep(losses) })
				checkCall(t, "StopAt", func() (int64, bool) { return impl.StopAt(losses, patience) })
				got, ok := impl.StopAt(losses, patience)
				want, wantOk := impl.StopAt(slices.Clip(list), patience)
				wantValue(t, "StopAt with unused capacity", textOfResult(got, ok), textOfResult(want, wantOk))
				got, ok = impl.BestStep(losses)
				want, wantOk = impl.BestStep(slices.Clip(list))
				wantValue(t, "BestStep with unused capacity", textOfResult(got, ok), textOfResult(want, wantOk))
			}
			wantValue(t, "the losses", fmt.Sprint(rawBits(losses)), before)
		}
	}
}

func TestEachFunctionOfTrainingsReturnsTheSameForAllIntegers(t *testing.T) {
	integers := append(anyIntegers(), 3, 15, 16, 17, 39, 40, 41, 999, 1000, 1001, -2, impl.MaxSeed, impl.MaxSeed+1)
	told := toldTraining(impl.StepMomentum)
	for _, n := range integers {
		checkCall(t, "NextSeed", func() (int64, bool) { return impl.NextSeed(n) })
		checkCall(t, "StopAt", func() (int64, bool) { return impl.StopAt([]float32{3, 1, 1, 2}, n) })
		for _, m := range integers {
			checkCall(t, "ShuffleRows", func() (several, bool) { return pair(impl.ShuffleRows(n, m)) })
			for _, k := range integers {
				checkCall(t, "BatchOf", func() ([]int64, bool) { return impl.BatchOf(5, n, m, k) })
				checkCall(t, "BatchOf", func() ([]int64, bool) { return impl.BatchOf(n, m, k, 7) })
			}
			a := told
			a.state.Steps, a.state.Seed, a.optimizer.Kind = n, m, n
			b := told
			b.batch, b.data.Inputs.Rows, b.data.Targets.Rows = n, m, m
			d := told
			d.batch, d.state.Steps = n, m
			e := told
			e.state.Model = model(layer(n, m, m, nil, nil))
			f := told
			f.data.Inputs.Columns, f.data.Targets.Rows = n, m
			for name, call := range trainCalls() {
				for i, arguments := range []trainArguments{a, b, d, e, f} {
					for _, steps := range []int64{n, 2} {
						what := fmt.Sprintf("%s %d of %d and %d", name, i, n, m)
						checkCall(t, what, func() (several, bool) { return call(arguments, steps) })
					}
				}
			}
		}
	}
}

func TestEachFunctionOfTrainingsReturnsTheSameForAllNumbers(t *testing.T) {
	for _, x := range edges() {
		checkCall(t, "BestStep", func() (int64, bool) { return impl.BestStep([]float32{x, 1, x}) })
		checkCall(t, "StopAt", func() (int64, bool) { return impl.StopAt([]float32{1, x, 0}, 2) })
		for _, y := range edges() {
			for _, kind := range allStepKinds() {
				a := toldTraining(kind)
				a.optimizer = optimizer(kind, x, y, x, y)
				a.state.Scale = y
				b := toldTraining(kind)
				b.data.Inputs = tensor(3, 2, 1, x, y, 2, -1, 0.5)
				for name, call := range trainCalls() {
					checkCall(t, name, func() (several, bool) { return call(a, 3) })
					checkCall(t, name, func() (several, bool) { return call(b, 3) })
				}
			}
		}
	}
}
