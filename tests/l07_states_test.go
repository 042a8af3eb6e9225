package tests

import (
	"math"
	"slices"
	"testing"

	"loop.example/g01157/impl"
)

func otherStepCounts() []int64 {
	return []int64{-1, -2, impl.MaxSteps + 1, impl.MaxSteps + 2, 1 << 32, 1<<32 + 1, math.MaxInt64, math.MinInt64}
}

// emptySlots has the slots of a kind for m, all of whose numbers are +0.
func emptySlots(kind int64, m impl.Model) [][]float32 {
	return slotsOf(kind, func() []float32 { return filled(len(paramsByRule(m)), 0) })
}

func TestNewTraining(t *testing.T) {
	c := chance(410)
	for name, m := range c.models() {
		if name == "the most" {
			continue
		}
		for _, kind := range allStepKinds() {
			for _, seed := range append(seeds(), c.seed()) {
				o := c.anyOptimizer(kind)
				got, ok := impl.NewTraining(m, o, seed)
				wantStateOk(t, "NewTraining of "+name, got, ok, state(m, emptySlots(kind, m), 0, seed, 1))
				wantValue(t, "ValidTraining of a new one", impl.ValidTraining(o, got), true)
			}
			for _, seed := range otherSeeds() {
				got, ok := impl.NewTraining(m, c.anyOptimizer(kind), seed)
				wantFailed(t, "NewTraining with another seed", got, ok)
			}
		}
		for _, kind := range otherStepKinds() {
			got, ok := impl.NewTraining(m, optimizer(kind, 0.1, 0, 0, 0), 0)
			wantFailed(t, "NewTraining with another optimiser", got, ok)
		}
	}
}

func TestNewTrainingOfBrokenModels(t *testing.T) {
	for name, broken := range brokenModels() {
		for _, kind := range append(allStepKinds(), otherStepKinds()...) {
			got, ok := impl.NewTraining(broken, optimizer(kind, 0.1, 0, 0, 0), 0)
			wantFailed(t, "NewTraining of "+name, got, ok)
		}
	}
}

func TestTrainingsOfTheMostParameters(t *testing.T) {
	c := chance(411)
	most, more := c.mostParams(), c.oneMoreParam()
	wantValue(t, "the most parameters", len(paramsByRule(most)), impl.MaxNumbers)
	wantValue(t, "one more", len(paramsByRule(more)), impl.MaxNumbers+1)
	for _, kind := range allStepKinds() {
		o := c.anyOptimizer(kind)
		got, ok := impl.NewTraining(most, o, 3)
		wantStateOk(t, "NewTraining of MaxNumbers parameters", got, ok, state(most, emptySlots(kind, most), 0, 3, 1))
		for _, m := range []impl.Model{more, c.models()["the most"]} {
			got, ok = impl.NewTraining(m, o, 3)
			wantFailed(t, "NewTraining of more parameters", got, ok)
			wantValue(t, "ValidTraining of more parameters", impl.ValidTraining(o, state(m, emptySlots(kind, m), 0, 3, 1)), false)
			data := dataFor(m, 2, c.smallList)
			for _, steps := range []int64{0, 1} {
				trainArguments{o, data, 1, state(m, emptySlots(kind, m), 0, 3, 1)}.wantFailed(t, "more parameters", steps)
			}
		}
	}
}

func TestValidTraining(t *testing.T) {
	c := chance(412)
	for name, m := range c.models() {
		if name == "the most" {
			continue
		}
		for _, kind := range allStepKinds() {
			o := c.anyOptimizer(kind)
			valid := c.training(m, kind, 1, c.anyList).state
			wantValue(t, "ValidTraining of "+name, impl.ValidTraining(o, valid), true)
			for _, scale := range edges() {
				other := valid
				other.Scale = scale
				wantValue(t, "ValidTraining with any Scale", impl.ValidTraining(o, other), true)
			}
			for _, steps := range []int64{0, 1, impl.MaxSteps - 1, impl.MaxSteps} {
				other := valid
				other.Steps = steps
				wantValue(t, "ValidTraining with Steps", impl.ValidTraining(o, other), true)
			}
			for _, seed := range seeds() {
				other := valid
				other.Seed = seed
				wantValue(t, "ValidTraining with a seed", impl.ValidTraining(o, other), true)
			}
			for what, broken := range brokenStates(valid) {
				wantValue(t, "ValidTraining of "+name+" with "+what, impl.ValidTraining(o, broken), false)
			}
			for _, other := range otherStepKinds() {
				wantValue(t, "ValidTraining with another optimiser", impl.ValidTraining(optimizer(other, 0.1, 0, 0, 0), valid), false)
			}
		}
	}
	for _, kind := range append(allStepKinds(), otherStepKinds()...) {
		wantValue(t, "ValidTraining of the zero struct", impl.ValidTraining(impl.Optimizer{Kind: kind}, impl.TrainState{}), false)
	}
}

// brokenStates has states that differ from a valid one in one way each.
func brokenStates(valid impl.TrainState) map[string]impl.TrainState {
	list := map[string]impl.TrainState{}
	for _, steps := range otherStepCounts() {
		broken := valid
		broken.Steps = steps
		list["Steps of "+impl.Decimal(steps)] = broken
	}
	for _, seed := range otherSeeds() {
		broken := valid
		broken.Seed = seed
		list["the seed "+impl.Decimal(seed)] = broken
	}
	count := len(paramsByRule(valid.Model))
	for slots := range 5 {
		if slots != len(valid.Slots) {
			broken := valid
			broken.Slots = slices.Repeat([][]float32{filled(count, 0)}, slots)
			list["slots: "+impl.Decimal(int64(slots))] = broken
		}
	}
	for _, length := range []int{0, 1, count - 1, count + 1, 2 * count, impl.MaxNumbers + 1} {
		for k := range valid.Slots {
			if length < 0 || length == count {
				continue
			}
			broken := valid
			broken.Slots = slices.Clone(valid.Slots)
			broken.Slots[k] = filled(length, 0)
			list["a slot of the length "+impl.Decimal(int64(length))+", "+impl.Decimal(int64(k))] = broken
		}
	}
	return list
}

func TestValidTrainingOfBrokenModels(t *testing.T) {
	for name, broken := range brokenModels() {
		for _, kind := range allStepKinds() {
			for _, count := range []int{0, 1, len(paramsByRule(broken))} {
				slots := slotsOf(kind, func() []float32 { return filled(count, 0) })
				wantValue(t, "ValidTraining of "+name, impl.ValidTraining(optimizer(kind, 0.1, 0, 0, 0), state(broken, slots, 0, 0, 1)), false)
			}
		}
	}
}

// A state is valid for the optimisers with as many slots.
func TestValidTrainingForOtherOptimisers(t *testing.T) {
	c := chance(413)
	m := c.trainable()["a net"]
	for _, kind := range allStepKinds() {
		for _, other := range allStepKinds() {
			got := impl.ValidTraining(c.anyOptimizer(other), state(m, emptySlots(kind, m), 5, 7, nan))
			wantValue(t, "ValidTraining for another optimiser", got, slotsByRule(kind) == slotsByRule(other))
		}
	}
	none := model(c.smallLayer(impl.LayerRelu, 3, 3), c.smallLayer(impl.LayerTanh, 3, 3))
	adam := c.anyOptimizer(impl.StepAdam)
	for _, slots := range [][][]float32{{nil, nil}, {{}, {}}, {nil, {}}} {
		wantValue(t, "ValidTraining without parameters", impl.ValidTraining(adam, state(none, slots, 0, 0, 1)), true)
		wantValue(t, "ValidTraining without parameters and another optimiser", impl.ValidTraining(c.anyOptimizer(0), state(none, slots, 0, 0, 1)), false)
	}
	wantValue(t, "ValidTraining without slots", impl.ValidTraining(adam, state(none, nil, 0, 0, 1)), false)
	wantValue(t, "ValidTraining with one slot", impl.ValidTraining(adam, state(none, [][]float32{nil}, 0, 0, 1)), false)
}

// copiedState returns t in new memory, made without impl.
func copiedState(t impl.TrainState) impl.TrainState {
	layers := slices.Clone(t.Model.Layers)
	for i, l := range layers {
		layers[i].Weights, layers[i].Bias = slices.Clone(l.Weights), slices.Clone(l.Bias)
	}
	slots := slices.Clone(t.Slots)
	for i, slot := range slots {
		slots[i] = slices.Clone(slot)
	}
	t.Model, t.Slots = impl.Model{Layers: layers}, slots
	return t
}

func wantSame(t *testing.T, what string, a, b impl.TrainState, want bool) {
	t.Helper()
	wantValue(t, "SameTraining, "+what, impl.SameTraining(a, b), want)
	wantValue(t, "SameTraining around, "+what, impl.SameTraining(b, a), want)
}

// numbersIn has all places of t with numbers.
func numbersIn(t *impl.TrainState) []*float32 {
	places := []*float32{&t.Scale}
	for _, list := range append(paramLists(t.Model), t.Slots...) {
		for i := range list {
			places = append(places, &list[i])
		}
	}
	return places
}

func TestSameTraining(t *testing.T) {
	c := chance(414)
	for name, m := range c.models() {
		kind := int64(c.below(5))
		a := c.training(m, kind, 1, c.mixedList).state
		wantSame(t, name+" itself", a, a, true)
		wantSame(t, name+" copied", a, copiedState(a), true)
		for place, number := range numbersIn(&a) {
			for _, pair := range [][2]float32{{1, of(0x3f800001)}, {0, minusZero}, {nan, of(0xffc00001)}, {nan, infinity}, {infinity, -infinity}, {0, least}, {3, -3}} {
				before := *number
				*number = pair[0]
				b := copiedState(a)
				wantSame(t, name+" with a number", a, b, true)
				*numbersIn(&b)[place] = pair[1]
				wantSame(t, name+" with another number", a, b, isNan(pair[0]) && isNan(pair[1]))
				*number = before
			}
		}
	}
}

func TestSameTrainingOfOtherIntegers(t *testing.T) {
	a := toldTraining(impl.StepAdam).state
	change := map[string]func(b *impl.TrainState){
		"Steps":               func(b *impl.TrainState) { b.Steps++ },
		"Seed":                func(b *impl.TrainState) { b.Seed-- },
		"a kind":              func(b *impl.TrainState) { b.Model.Layers[1].Kind = impl.LayerTanh },
		"a kind that is none": func(b *impl.TrainState) { b.Model.Layers[0].Kind = -1 },
		"an In":               func(b *impl.TrainState) { b.Model.Layers[0].In = 3 },
		"an Out":              func(b *impl.TrainState) { b.Model.Layers[3].Out = 3 },
		"both sizes":          func(b *impl.TrainState) { b.Model.Layers[1].In, b.Model.Layers[1].Out = 4, 4 },
		"sizes exchanged":     func(b *impl.TrainState) { b.Model.Layers[0].In, b.Model.Layers[0].Out = 3, 2 },
	}
	for what, change := range change {
		b := copiedState(a)
		change(&b)
		wantSame(t, "another one of "+what, a, b, false)
		wantSame(t, "the same with "+what, b, copiedState(b), true)
	}
}

func TestSameTrainingOfOtherLengths(t *testing.T) {
	a := toldTraining(impl.StepAdam).state
	changes := map[string]func(b *impl.TrainState){
		"a layer less":               func(b *impl.TrainState) { b.Model.Layers = b.Model.Layers[:3] },
		"the first layer less":       func(b *impl.TrainState) { b.Model.Layers = b.Model.Layers[1:] },
		"no layers":                  func(b *impl.TrainState) { b.Model.Layers = nil },
		"a layer more":               func(b *impl.TrainState) { b.Model.Layers = append(b.Model.Layers, impl.Layer{}) },
		"layers exchanged":           func(b *impl.TrainState) { slices.Reverse(b.Model.Layers) },
		"a slot less":                func(b *impl.TrainState) { b.Slots = b.Slots[:1] },
		"no slots":                   func(b *impl.TrainState) { b.Slots = nil },
		"a slot more":                func(b *impl.TrainState) { b.Slots = append(b.Slots, filled(20, 0)) },
		"an empty slot more":         func(b *impl.TrainState) { b.Slots = append(b.Slots, nil) },
		"a number less in a slot":    func(b *impl.TrainState) { b.Slots[1] = b.Slots[1][:19] },
		"a number more in a slot":    func(b *impl.TrainState) { b.Slots[0] = filled(21, 0) },
		"a slot without numbers":     func(b *impl.TrainState) { b.Slots[0] = nil },
		"a number from slot to slot": func(b *impl.TrainState) { b.Slots = [][]float32{filled(19, 0), filled(21, 0)} },
		"a weight less":              func(b *impl.TrainState) { b.Model.Layers[0].Weights = b.Model.Layers[0].Weights[:5] },
		"a weight more":              func(b *impl.TrainState) { b.Model.Layers[1].Weights = []float32{0} },
		"a bias less":                func(b *impl.TrainState) { b.Model.Layers[0].Bias = b.Model.Layers[0].Bias[1:] },
		"a bias more":                func(b *impl.TrainState) { b.Model.Layers[2].Bias = []float32{0} },
		"a bias as a weight": func(b *impl.TrainState) {
			l := &b.Model.Layers[0]
			l.Weights, l.Bias = append(l.Weights, l.Bias[0]), l.Bias[1:]
		},
	}
	for what, change := range changes {
		b := copiedState(a)
		change(&b)
		wantSame(t, what, a, b, false)
		wantSame(t, what+" twice", b, copiedState(b), true)
	}
}

// Empty lists are the same, and so are states that are not valid.
func TestSameTrainingOfBrokenStates(t *testing.T) {
	wantSame(t, "zero structs", impl.TrainState{}, impl.TrainState{}, true)
	empty := impl.TrainState{Model: impl.Model{Layers: []impl.Layer{}}, Slots: [][]float32{}}
	wantSame(t, "empty lists", impl.TrainState{}, empty, true)
	one := impl.TrainState{Model: model(impl.Layer{}), Slots: [][]float32{nil}}
	other := impl.TrainState{Model: model(layer(0, 0, 0, []float32{}, []float32{})), Slots: [][]float32{{}}}
	wantSame(t, "empty lists in lists", one, other, true)
	wantSame(t, "a layer and no layer", one, empty, false)
	for name, broken := range brokenModels() {
		a := state(broken, [][]float32{{1}, nil, {nan, 2}}, -5, math.MinInt64, infinity)
		wantSame(t, name, a, copiedState(a), true)
		b := copiedState(a)
		b.Steps = math.MaxInt64
		wantSame(t, name+" with other Steps", a, b, false)
		b = copiedState(a)
		b.Slots[2][1] = 3
		wantSame(t, name+" with another number", a, b, false)
	}
	long := impl.TrainState{Slots: [][]float32{filled(5000, 1)}}
	longer := copiedState(long)
	longer.Slots[0][4999] = 2
	wantSame(t, "a long slot", long, copiedState(long), true)
	wantSame(t, "another long slot", long, longer, false)
	valid, _ := impl.NewTraining(model(layer(2, 1, 1, []float32{3}, nil)), impl.Optimizer{}, 0)
	wantSame(t, "a valid state and the zero struct", valid, impl.TrainState{}, false)
}
