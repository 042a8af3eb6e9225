package tests

import (
	"math"
	"testing"

	"loop.example/g01157/impl"
)

func examples(inputs, targets impl.Tensor) impl.Examples {
	return impl.Examples{Inputs: inputs, Targets: targets}
}

func state(m impl.Model, slots [][]float32, steps, seed int64, scale float32) impl.TrainState {
	return impl.TrainState{Model: m, Slots: slots, Steps: steps, Seed: seed, Scale: scale}
}

// seeds has numbers that are seeds, among them the ends, and otherSeeds some
// that are none.
func seeds() []int64 {
	return []int64{0, 1, 2, 7, 12345, 65535, 65536, 123456789, 1 << 30, impl.MaxSeed - 7919, impl.MaxSeed - 7918, impl.MaxSeed - 1, impl.MaxSeed}
}

func otherSeeds() []int64 {
	return []int64{-1, -2, impl.MaxSeed + 1, impl.MaxSeed + 2, 1 << 32, 1<<32 + 1, -impl.MaxSeed, math.MaxInt64, math.MinInt64}
}

// otherSides has numbers that are neither a number of rows nor a batch.
func otherSides() []int64 {
	return []int64{0, -1, -2, impl.MaxSide + 1, 32, 1 << 32, 1<<32 + 1, math.MaxInt64, math.MinInt64}
}

func (c *chance) seed() int64 {
	switch c.below(3) {
	case 0:
		return seeds()[c.below(len(seeds()))]
	case 1:
		return impl.MaxSeed - int64(c.below(100000))
	}
	return int64(c.next() >> 1)
}

// nextSeedByRule has the remainder in the last 31 bits.
func nextSeedByRule(seed int64) int64 { return int64((uint64(seed)*1103515245 + 12345) & 0x7fffffff) }

// shuffleByRule is the text of the document.
func shuffleByRule(count, seed int64) ([]int64, int64) {
	var rows []int64
	for row := range count {
		rows = append(rows, row)
	}
	for places := count; places > 1; places-- {
		seed = nextSeedByRule(seed)
		part := seed >> 16
		j := part - part/places*places
		last := rows[places-1]
		rows[places-1] = rows[j]
		rows[j] = last
	}
	return rows, seed
}

// batchByRule goes through all steps up to the one that is asked for, and
// takes rows away from those of an epoch as long as there are some.
func batchByRule(count, batch, seed, step int64) []int64 {
	var left []int64
	for epoch := int64(0); ; step-- {
		if len(left) == 0 {
			left, _ = shuffleByRule(count, nextSeedByRule((seed+7919*epoch)&0x7fffffff))
			epoch++
		}
		size := min(int(batch), len(left))
		if step == 0 {
			return left[:size]
		}
		left = left[size:]
	}
}

// rowsByRule has some rows of t, made without impl.
func rowsByRule(t impl.Tensor, rows []int64) impl.Tensor {
	taken := tensor(int64(len(rows)), t.Columns)
	for _, row := range rows {
		taken.Data = append(taken.Data, rowTensor(t, row).Data...)
	}
	return taken
}

// trainArguments are what a training takes, without the number of its steps.
type trainArguments struct {
	optimizer impl.Optimizer
	data      impl.Examples
	batch     int64
	state     impl.TrainState
}

func (a trainArguments) train(steps int64) (impl.TrainState, []float32, bool) {
	return impl.TrainSome(a.optimizer, a.data, a.batch, a.state, steps)
}

// byRule is the text of the document.
func (a trainArguments) byRule(steps int64) (impl.TrainState, []float32) {
	t := a.state
	var losses []float32
	for range steps {
		rows := batchByRule(a.data.Inputs.Rows, a.batch, t.Seed, t.Steps)
		x, y := rowsByRule(a.data.Inputs, rows), rowsByRule(a.data.Targets, rows)
		losses = append(losses, lossByRule(t.Model, x, y))
		tape, weights := modelTapeByRule(t.Model, x, y)
		gradients := gradientsByRule(tape)
		var list []float32
		for _, index := range weights {
			list = append(list, gradients[index].data...)
		}
		params, slots := stepArguments{a.optimizer, paramsByRule(t.Model), list, t.Slots, t.Steps}.byRule()
		t.Model, t.Slots = withParamsByRule(t.Model, params), slots
		t.Steps++
	}
	return t, losses
}

// mostParams has MaxNumbers parameters, and oneMoreParam one more.
func (c *chance) mostParams() impl.Model {
	return model(c.smallLayer(0, 8, 8), c.smallLayer(0, 8, 8), c.smallLayer(0, 8, 8), c.smallLayer(0, 8, 4), c.smallLayer(2, 4, 4))
}

func (c *chance) oneMoreParam() impl.Model {
	return model(c.smallLayer(0, 8, 8), c.smallLayer(0, 8, 8), c.smallLayer(0, 8, 8), c.smallLayer(0, 8, 4), c.smallLayer(0, 4, 1))
}

// dataFor has rows that fit m, with numbers that list makes.
func dataFor(m impl.Model, rows int64, list func(count int) []float32) impl.Examples {
	fit := fitted(m, rows, list)
	return examples(fit.x, fit.y)
}

// training has arguments for a model, with slots of numbers that list makes.
func (c *chance) training(m impl.Model, kind, rows int64, list func(count int) []float32) trainArguments {
	slots := slotsOf(kind, func() []float32 { return list(len(paramsByRule(m))) })
	return trainArguments{
		optimizer: c.anyOptimizer(kind), data: dataFor(m, rows, list), batch: int64(1 + c.below(impl.MaxSide)),
		state: state(m, slots, int64(c.below(impl.MaxSteps-impl.MaxOnce+1)), c.seed(), list(1)[0]),
	}
}

// trainable has the models that have a tape and no more parameters than an
// optimiser takes.
func (c *chance) trainable() map[string]impl.Model {
	list := c.tapedModels()
	delete(list, "the most dense")
	list["MaxNumbers parameters"] = c.mostParams()
	return list
}

// trainings has arguments with models and optimisers of each kind, and with
// small numbers, others here and there, and any ones.
func (c *chance) trainings() map[string]trainArguments {
	list := map[string]trainArguments{}
	for name, m := range c.trainable() {
		for i, numbers := range []func(int) []float32{c.smallList, c.mixedList, c.anyList} {
			for _, kind := range allStepKinds() {
				name := name + " " + impl.Decimal(int64(i)) + " of kind " + impl.Decimal(kind)
				list[name] = c.training(m, kind, int64(1+c.below(impl.MaxSide)), numbers)
			}
		}
	}
	return list
}

// toldTraining has the net of toldNet, and batches of two of its three rows.
func toldTraining(kind int64) trainArguments {
	net := toldNet()
	slots := slotsOf(kind, func() []float32 { return filled(20, 0) })
	return trainArguments{optimizer(kind, 0.01, 0.9, 0.999, 1e-8), examples(net.x, net.y), 2, state(net.model, slots, 0, 7, 1)}
}

func wantStateOk(t *testing.T, what string, got impl.TrainState, ok bool, want impl.TrainState) {
	t.Helper()
	wantValue(t, what+": success", ok, true)
	wantValue(t, what, textOfResult(got), textOfResult(want))
}
