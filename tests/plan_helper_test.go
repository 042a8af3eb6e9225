package tests

import (
	"math"
	"slices"
	"strings"
	"testing"

	"loop.example/g01157/impl"
)

func plan(steps ...impl.PlanStep) impl.Plan { return impl.Plan{Steps: steps} }

// stepFor returns the step that does what l does.
func stepFor(l impl.Layer) impl.PlanStep {
	return impl.PlanStep{Kind: l.Kind, In: l.In, Out: l.Out, Weights: l.Weights, Bias: l.Bias}
}

func withScales(s impl.PlanStep, scales ...float32) impl.PlanStep {
	s.Scales = scales
	return s
}

func withRelu(s impl.PlanStep) impl.PlanStep {
	s.Relu = true
	return s
}

// layerFor returns what s is without its Scales and Relu.
func layerFor(s impl.PlanStep) impl.Layer { return layer(s.Kind, s.In, s.Out, s.Weights, s.Bias) }

// isPlanByRule is the text of the document.
func isPlanByRule(p impl.Plan) bool {
	if len(p.Steps) > 6 {
		return false
	}
	for i, s := range p.Steps {
		weights, bias := sizesByRule(s.Kind, s.In, s.Out)
		switch {
		case s.Kind < 0 || s.Kind > 5 || s.In < 1 || s.In > 8 || s.Out < 1 || s.Out > 8:
			return false
		case int64(len(s.Weights)) != weights || int64(len(s.Bias)) != bias:
			return false
		case s.Kind != impl.PlanDense && (s.In != s.Out || len(s.Scales) > 0 || s.Relu):
			return false
		case s.Kind == impl.PlanDense && len(s.Scales) > 0 && (s.Relu || int64(len(s.Scales)) != s.Out):
			return false
		case i > 0 && p.Steps[i-1].Out != s.In:
			return false
		}
	}
	return true
}

// compileByRule is the text of the document, for a valid model.
func compileByRule(m impl.Model) impl.Plan {
	var steps []impl.PlanStep
	for _, l := range m.Layers {
		var last impl.PlanStep
		behindOne := len(steps) > 0
		if behindOne {
			last = steps[len(steps)-1]
		}
		behindDense := behindOne && last.Kind == impl.PlanDense
		behindOpen := behindDense && len(last.Scales) == 0 && !last.Relu
		isOnes := l.Kind == impl.LayerScale && !slices.ContainsFunc(l.Weights, func(w float32) bool { return !same(w, 1) })
		if isOnes {
			continue
		}
		if l.Kind == impl.LayerRelu && behindOne && (last.Kind == impl.PlanRelu || last.Kind == impl.PlanSoftmax || behindDense && last.Relu) {
			continue
		}
		if l.Kind == impl.LayerRelu && behindOpen {
			steps[len(steps)-1].Relu = true
			continue
		}
		if l.Kind == impl.LayerScale && behindOpen {
			steps[len(steps)-1].Scales = l.Weights
			continue
		}
		steps = append(steps, stepFor(l))
	}
	return plan(steps...)
}

// runByRule makes numbers of x by the text of the document, step by step.
func runByRule(p impl.Plan, x []float32) []float32 {
	for _, s := range p.Steps {
		made := layerByRule(layerFor(s), x)
		for o := range made {
			if len(s.Scales) > 0 {
				made[o] = s.Scales[o] * made[o]
			}
			if s.Relu {
				made[o] = reluByRule(made[o])
			}
		}
		x = made
	}
	return x
}

// planTextByRule is the text of the document.
func planTextByRule(p impl.Plan) string {
	names := map[int64]string{0: "dense", 1: "relu", 2: "scale", 3: "tanh", 4: "softmax", 5: "norm"}
	text := ""
	for _, s := range p.Steps {
		if text != "" {
			text += " "
		}
		text += names[s.Kind]
		if len(s.Scales) > 0 {
			text += "*"
		}
		if s.Relu {
			text += "+"
		}
		text += impl.Decimal(s.In) + ">" + impl.Decimal(s.Out)
	}
	if text == "" {
		return "none"
	}
	return text
}

// productsByRule and roomByRule are the text of the document.
func productsByRule(p impl.Plan) (count int64) {
	for _, s := range p.Steps {
		switch s.Kind {
		case impl.PlanDense:
			count += s.In * s.Out
			if len(s.Scales) > 0 {
				count += s.Out
			}
		case impl.PlanScale, impl.PlanNorm:
			count += s.In
		}
	}
	return count
}

func roomByRule(p impl.Plan) (most int64) {
	for _, s := range p.Steps {
		if s.In+s.Out > most {
			most = s.In + s.Out
		}
	}
	return most
}

// stepsOf has steps of a kind with these numbers, as they are, and if they are
// dense ones, with Scales and with Relu.
func stepsOf(kind, in, out int64, list func(count int) []float32) []impl.PlanStep {
	s := stepFor(layerOf(kind, in, out, func() float32 { return list(1)[0] }))
	if kind != impl.PlanDense {
		return []impl.PlanStep{s}
	}
	return []impl.PlanStep{s, withScales(s, list(int(out))...), withRelu(s)}
}

// anyPlan has count steps of any kinds, also those that no compiler would
// leave.
func (c *chance) anyPlan(count int, list func(count int) []float32) impl.Plan {
	var p impl.Plan
	size := int64(1 + c.below(8))
	for range count {
		s := stepsOf(int64(c.below(6)), size, int64(1+c.below(8)), list)
		p.Steps = append(p.Steps, s[c.below(len(s))])
		size = p.Steps[len(p.Steps)-1].Out
	}
	return p
}

// plans has valid plans: of no steps, of one of each kind and size, of the
// most, and of any ones.
func (c *chance) plans() map[string]impl.Plan {
	list := map[string]impl.Plan{"no steps": {}, "an empty list of steps": {Steps: []impl.PlanStep{}}}
	for _, kind := range allKinds() {
		for _, in := range []int64{1, 2, 5, 8} {
			for _, out := range []int64{1, 3, 8} {
				for i, s := range stepsOf(kind, in, out, c.mixedList) {
					list[strings.Join([]string{"kind", impl.Decimal(kind), impl.Decimal(in), impl.Decimal(out), impl.Decimal(int64(i))}, " ")] = plan(s)
				}
			}
		}
	}
	for count := 1; count <= impl.MaxLayers; count++ {
		for i, numbers := range []func(int) []float32{c.smallList, c.mixedList, c.anyList} {
			for k := range 8 {
				list[strings.Join([]string{"steps", impl.Decimal(int64(count)), impl.Decimal(int64(i)), impl.Decimal(int64(k))}, " ")] = c.anyPlan(count, numbers)
			}
		}
	}
	return list
}

// brokenSteps has steps that differ from valid ones in one way each.
func brokenSteps() map[string]impl.PlanStep {
	list := map[string]impl.PlanStep{}
	for name, broken := range brokenLayers() {
		list[name] = stepFor(broken)
		list[name+" with Relu"] = withRelu(stepFor(broken))
		list[name+" with Scales"] = withScales(stepFor(broken), filled(int(max(0, min(broken.Out, 9))), 1)...)
	}
	dense := stepFor(layer(impl.LayerDense, 2, 3, filled(6, 1), filled(3, 1)))
	for _, count := range []int{1, 2, 4, 5, 6, 256} {
		list["Scales of another length: "+impl.Decimal(int64(count))] = withScales(dense, filled(count, 1)...)
		list["Scales of another length and Relu: "+impl.Decimal(int64(count))] = withRelu(withScales(dense, filled(count, 1)...))
	}
	list["Scales and Relu"] = withRelu(withScales(dense, 1, 2, 3))
	list["Scales of ones and Relu"] = withRelu(withScales(dense, 1, 1, 1))
	for _, kind := range allKinds()[1:] {
		for _, size := range []int64{1, 2, 8} {
			s := stepsOf(kind, size, size, func(count int) []float32 { return filled(count, 1) })[0]
			name := " at " + impl.Decimal(size) + " of kind " + impl.Decimal(kind)
			list["Relu"+name] = withRelu(s)
			list["Scales"+name] = withScales(s, filled(int(size), 1)...)
			list["one of Scales"+name] = withScales(s, 1)
			list["Relu and Scales"+name] = withRelu(withScales(s, filled(int(size), 1)...))
		}
	}
	return list
}

// brokenPlans has plans that differ from valid ones in one way each.
func brokenPlans() map[string]impl.Plan {
	relu := stepFor(layer(impl.LayerRelu, 1, 1, nil, nil))
	two, three := stepFor(layer(impl.LayerTanh, 2, 2, nil, nil)), stepFor(layer(impl.LayerTanh, 3, 3, nil, nil))
	dense := stepFor(layer(impl.LayerDense, 2, 3, filled(6, 1), filled(3, 0)))
	list := map[string]impl.Plan{
		"a step too many":                plan(slices.Repeat([]impl.PlanStep{relu}, impl.MaxLayers+1)...),
		"many steps":                     plan(slices.Repeat([]impl.PlanStep{relu}, 300)...),
		"steps that do not fit":          plan(two, three),
		"steps that do not fit around":   plan(three, two),
		"last steps that do not fit":     plan(two, two, two, two, two, three),
		"a dense step that does not fit": plan(dense, two),
		"dense steps that do not fit":    plan(withRelu(dense), withRelu(dense)),
		"scaled steps that do not fit":   plan(withScales(dense, 1, 2, 3), withScales(dense, 1, 2, 3)),
	}
	for name, broken := range brokenSteps() {
		list["alone: "+name] = plan(broken)
		list["behind one: "+name] = plan(stepFor(layer(impl.LayerRelu, broken.In, broken.In, nil, nil)), broken)
		list["before one: "+name] = plan(broken, stepFor(layer(impl.LayerRelu, broken.Out, broken.Out, nil, nil)))
	}
	return list
}

func wantPlanOk(t *testing.T, what string, got impl.Plan, ok bool, want impl.Plan) {
	t.Helper()
	wantValue(t, what+": success", ok, true)
	wantValue(t, what, textOfResult(got), textOfResult(want))
}

func wantLayerOk(t *testing.T, what string, got impl.Layer, ok bool, want impl.Layer) {
	t.Helper()
	wantValue(t, what+": success", ok, true)
	wantValue(t, what, textOfResult(got), textOfResult(want))
}

// roomyPlan returns a copy of p with unused capacity everywhere.
func roomyPlan(p impl.Plan) impl.Plan {
	steps := make([]impl.PlanStep, 0, 12)
	for _, s := range p.Steps {
		s.Weights, s.Bias, s.Scales = roomyList(s.Weights), roomyList(s.Bias), roomyList(s.Scales)
		steps = append(steps, s)
	}
	unused := steps[len(steps):cap(steps)]
	for i := range unused {
		unused[i] = stepFor(layer(4, 3, 3, nil, nil))
	}
	return plan(steps...)
}

// rawPlan shows all of a plan, with its unused capacity.
func rawPlan(p impl.Plan) string {
	text := ""
	for _, s := range p.Steps[:cap(p.Steps)] {
		text += textOfResult(s, rawBits(s.Weights), rawBits(s.Bias), rawBits(s.Scales))
	}
	return text
}

// listsOfPlan has all lists of numbers of a plan.
func listsOfPlan(p impl.Plan) (parts [][]float32) {
	for _, s := range p.Steps {
		parts = append(parts, s.Weights, s.Bias, s.Scales)
	}
	return parts
}

// tinyList has numbers that are so small that products of them are rounded to
// fewer bits or to a zero.
func (c *chance) tinyList(count int) []float32 {
	list := make([]float32, count)
	for i := range list {
		list[i] = float32(math.Ldexp(float64(c.small()), -c.below(150)))
	}
	return list
}

// namedList has infinities, not-a-numbers, both zeros and some numbers beside.
func (c *chance) namedList(count int) []float32 {
	named := []float32{infinity, -infinity, nan, of(0xffc00000), 0, minusZero, 1, -1, least, -least, greatest, -greatest, 0.5}
	list := make([]float32, count)
	for i := range list {
		list[i] = named[c.below(len(named))]
	}
	return list
}

// inputs has lists x of each sort.
func (c *chance) inputs(count int) [][]float32 {
	list := [][]float32{c.smallList(count), c.mixedList(count), c.anyList(count), c.tinyList(count), c.namedList(count), c.namedList(count)}
	for _, x := range []float32{0, minusZero, nan, infinity, -infinity, least, -least, of(0x00800000), greatest, -greatest} {
		list = append(list, filled(count, x))
	}
	return list
}
