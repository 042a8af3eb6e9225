package tests

import (
	"math"

	"loop.example/g01157/impl"
)

func optimizer(kind int64, rate, a, b, eps float32) impl.Optimizer {
	return impl.Optimizer{Kind: kind, Rate: rate, Beta1: a, Beta2: b, Eps: eps}
}

func allStepKinds() []int64 { return []int64{0, 1, 2, 3, 4} }

func otherStepKinds() []int64 {
	return []int64{-1, 5, 6, -2, 255, 256, 1 << 32, 1<<32 + 1, math.MaxInt64, math.MinInt64}
}

// slotsByRule has how many slots the text of the document gives to a kind.
func slotsByRule(kind int64) int {
	switch kind {
	case impl.StepPlain:
		return 0
	case impl.StepAdam:
		return 2
	}
	return 1
}

// stepArguments are what a step takes.
type stepArguments struct {
	optimizer         impl.Optimizer
	params, gradients []float32
	slots             [][]float32
	steps             int64
}

func (s stepArguments) step() ([]float32, [][]float32, bool) {
	return impl.StepParams(s.optimizer, s.params, s.gradients, s.slots, s.steps)
}

// slotsOf makes the slots of a kind, each with a list that make returns.
func slotsOf(kind int64, list func() []float32) [][]float32 {
	slots := make([][]float32, slotsByRule(kind))
	for i := range slots {
		slots[i] = list()
	}
	return slots
}

// anyOptimizer has numbers as they are used, or any ones.
func (c *chance) anyOptimizer(kind int64) impl.Optimizer {
	switch c.below(4) {
	case 0:
		any := c.anyList(4)
		return optimizer(kind, any[0], any[1], any[2], any[3])
	case 1:
		mixed := c.mixedList(4)
		return optimizer(kind, mixed[0], mixed[1], mixed[2], mixed[3])
	}
	return optimizer(kind, 0.01*float32(1+c.below(99)), 0.9, 0.999, 1e-8)
}

// anySteps is a number of steps before, often a small one, and often the
// greatest one.
func (c *chance) anySteps() int64 {
	switch c.below(4) {
	case 0:
		return int64(c.below(impl.MaxSteps))
	case 1:
		return impl.MaxSteps - 1 - int64(c.below(2))
	}
	return int64(c.below(4))
}

// arguments makes steps of count parameters, with lists of each sort.
func (c *chance) arguments(kind int64, count int) []stepArguments {
	var made []stepArguments
	for _, params := range c.lists(count) {
		gradients := c.lists(count)[c.below(5)]
		slots := slotsOf(kind, func() []float32 { return c.lists(count)[c.below(5)] })
		made = append(made, stepArguments{c.anyOptimizer(kind), params, gradients, slots, c.anySteps()})
	}
	return made
}

func powerByRule(base float32, power int64) float32 {
	x := float32(1)
	for i := int64(0); i < power; i++ {
		x = float32(x * base)
	}
	return x
}

// mixByRule is share x + (1 - share) y.
func mixByRule(share, x, y float32) float32 {
	first, rest := float32(share*x), float32(1-share)
	second := float32(rest * y)
	return first + second
}

// stepByRule is the text of the document for a parameter w with the gradient
// g and the numbers own in the slots, which it changes.
func stepByRule(o impl.Optimizer, w, g float32, own []float32, steps int64) float32 {
	r, square := o.Rate, float32(g*g)
	overRoot := func(x, v float32) float32 {
		product, root := float32(r*x), float32(math.Sqrt(float64(v)))
		below := float32(root + o.Eps)
		quotient := float32(product / below)
		return w - quotient
	}
	switch o.Kind {
	case impl.StepPlain:
		product := float32(r * g)
		return w - product
	case impl.StepMomentum:
		kept := float32(o.Beta1 * own[0])
		own[0] = kept + g
		product := float32(r * own[0])
		return w - product
	case impl.StepSquares:
		own[0] = own[0] + square
		return overRoot(g, own[0])
	case impl.StepMean:
		own[0] = mixByRule(o.Beta2, own[0], square)
		return overRoot(g, own[0])
	}
	own[0] = mixByRule(o.Beta1, own[0], g)
	own[1] = mixByRule(o.Beta2, own[1], square)
	x := own[0] / (1 - powerByRule(o.Beta1, steps+1))
	y := own[1] / (1 - powerByRule(o.Beta2, steps+1))
	return overRoot(x, y)
}

// byRule makes the step by stepByRule.
func (s stepArguments) byRule() ([]float32, [][]float32) {
	params := make([]float32, len(s.params))
	slots := slotsOf(s.optimizer.Kind, func() []float32 { return make([]float32, len(params)) })
	for i := range params {
		var own []float32
		for _, slot := range s.slots {
			own = append(own, slot[i])
		}
		params[i] = stepByRule(s.optimizer, s.params[i], s.gradients[i], own, s.steps)
		for k := range own {
			slots[k][i] = own[k]
		}
	}
	return params, slots
}
