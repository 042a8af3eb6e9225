package tests

import (
	"fmt"
	"math"
	"testing"

	"loop.example/g01157/impl"
)

// toldNet has weights that are no bfloats, and six numbers of y, by which 1
// is not divided exactly.
func toldNet() mixedArguments {
	m := model(
		layer(impl.LayerDense, 2, 3, []float32{0.1, -0.7, 1.3, 0.33, -0.2, 0.9}, []float32{0.05, -0.01, 0.3}),
		layer(impl.LayerRelu, 3, 3, nil, nil),
		layer(impl.LayerScale, 3, 3, []float32{1.1, 0.7, -1.7}, nil),
		layer(impl.LayerDense, 3, 2, []float32{0.3, 0.6, -0.4, 1.9, -0.8, 0.21}, []float32{0.1, -0.2}))
	return mixedArguments{
		model: m, scale: lossScale(1000, 0, 2), rate: 0.01,
		x: tensor(3, 2, 0.5, -1.3, 2.1, 0.4, -0.6, 1.7), y: tensor(3, 2, 1, 0.3, -0.2, 0.7, 0.9, -1.1),
	}
}

// Bits that are told have been computed apart from this program, in 32-bit
// numbers of another language.
func TestScaledGradientsWithToldBits(t *testing.T) {
	for _, c := range []struct {
		scale float32
		want  []uint32
	}{
		{1, []uint32{0x3efce696, 0xbfa462ae, 0x3fa9db14, 0x3f3c23d8, 0x3fb0b871, 0x3edfc5a2, 0x3f7ce696, 0x3ebcba37, 0x3f47e2ce, 0x3f67ab32, 0x403362c5, 0xbe531c88, 0xbe352d42, 0x3f89f912, 0xbf4f88fb, 0x3f0d99f0, 0xbfd19ef6, 0x3e016635, 0x3f120dce, 0xbe96bb06}},
		{1000, []uint32{0x3efce698, 0xbfa462af, 0x3fa9db14, 0x3f3c23d7, 0x3fb0b873, 0x3edfc5a2, 0x3f7ce698, 0x3ebcba39, 0x3f47e2ce, 0x3f67ab33, 0x403362c7, 0xbe531c88, 0xbe352d43, 0x3f89f912, 0xbf4f88fb, 0x3f0d99f1, 0xbfd19ef8, 0x3e016635, 0x3f120dcf, 0xbe96bb06}},
		{0.1, []uint32{0x3efce696, 0xbfa462ae, 0x3fa9db13, 0x3f3c23d8, 0x3fb0b873, 0x3edfc5a2, 0x3f7ce696, 0x3ebcba38, 0x3f47e2ce, 0x3f67ab32, 0x403362c6, 0xbe531c88, 0xbe352d42, 0x3f89f912, 0xbf4f88fb, 0x3f0d99f0, 0xbfd19ef8, 0x3e016636, 0x3f120dcf, 0xbe96bb06}},
	} {
		net := toldNet()
		net.scale.Scale = c.scale
		list, loss, finite, ok := net.gradients()
		wantNumbersOk(t, "ScaledGradients", list, ok, numbersOf(c.want))
		wantNumber(t, "ScaledGradients: loss", loss, of(0x4001fd2f))
		wantValue(t, "ScaledGradients: finite", finite, true)
	}
}

func wantParams(t *testing.T, what string, m impl.Model, bits []uint32) {
	t.Helper()
	want := withParamsByRule(toldNet().model, numbersOf(bits))
	wantValue(t, what, textOfResult(m), textOfResult(want))
}

func TestMixedStepsWithToldBits(t *testing.T) {
	net := toldNet()
	m, s, finite, ok := net.step()
	wantParams(t, "MixedStep", m, []uint32{0x3dc2af19, 0xbf2fe98c, 0x3fa4b391, 0x3ea5327c, 0xbe5af009, 0x3f6547f8, 0x3d2455fc, 0xbc603b97, 0x3e959a2f, 0x3f8ba444, 0x3f2c064a, 0xbfd9560c, 0x3e9a8182, 0x3f16d72e, 0xbec8a639, 0x3ff27df3, 0xbf489b8b, 0x3e55befa, 0x3dc11d9e, 0xbe49c90f})
	wantOk(t, "MixedStep: loss scale", s, ok, lossScale(1000, 1, 2))
	wantOk(t, "MixedStep: finite", finite, ok, true)
	m, s, count, ok := net.steps(50)
	wantParams(t, "MixedSteps", m, []uint32{0x3bce15a7, 0xbee9a6ee, 0x3f907edc, 0x3e62583a, 0xbe933469, 0x3f5e5e1b, 0xbe0cb840, 0xbd4befa0, 0x3e7ddafc, 0x3f7738a5, 0x3e191063, 0xbfd7fb73, 0x3ebee9e6, 0x3ef09642, 0xbe92a1e8, 0x3fe7ec85, 0xbf0dcd64, 0x3e90a6c8, 0x3d647045, 0xbdcf0fa5})
	wantOk(t, "MixedSteps: loss scale", s, ok, lossScale(mostScale, 0, 2))
	wantOk(t, "MixedSteps: finite", count, ok, 50)
}

func TestScaledGradientsOfOneNumber(t *testing.T) {
	const great = 1 << 53 // with a weight of 1, the gradient is its square, doubled
	tooMuch, most := float32(1<<21), float32(1<<20)
	for _, c := range []struct {
		name           string
		arguments      mixedArguments
		gradient, loss float32
		isSkipped      bool
	}{
		{name: "small numbers", arguments: oneNumber(2, 3, 5, 1024), gradient: 6, loss: 1},
		{name: "the greatest scale without overflow", arguments: oneNumber(1, great, 0, most), gradient: great * great * 2, loss: great * great},
		{name: "a gradient that overflows", arguments: oneNumber(1, great, 0, tooMuch), gradient: infinity, loss: great * great, isSkipped: true},
		{name: "a gradient that overflows below", arguments: oneNumber(-1, great, 0, tooMuch), gradient: -infinity, loss: great * great, isSkipped: true},
		{name: "a gradient and a loss that overflow", arguments: oneNumber(1, great, 0, mostScale), gradient: infinity, loss: infinity, isSkipped: true},
		{name: "a loss that overflows alone", arguments: oneNumber(great, 1, 0, mostScale), gradient: great * 2, loss: infinity},
		{name: "a gradient that overflows with each scale", arguments: oneNumber(great, great, 0, leastScale), gradient: infinity, loss: infinity, isSkipped: true},
		{name: "a gradient that overflows when it is divided", arguments: oneNumber(8, 1<<62, 0, leastScale), gradient: infinity, loss: infinity},
		{name: "a gradient of 0", arguments: oneNumber(0, great, 0, mostScale), gradient: 0, loss: 0},
		{name: "a gradient that is none", arguments: oneNumber(nan, 1, 0, 1), gradient: nan, loss: nan, isSkipped: true},
		{name: "an input that is none", arguments: oneNumber(1, nan, 0, 1), gradient: nan, loss: nan, isSkipped: true},
		{name: "a goal that is none", arguments: oneNumber(1, 1, nan, 1), gradient: nan, loss: nan, isSkipped: true},
		{name: "an infinite weight", arguments: oneNumber(infinity, 1, 0, 1), gradient: infinity, loss: infinity, isSkipped: true},
		{name: "an infinite input", arguments: oneNumber(1, infinity, 0, 1), gradient: infinity, loss: infinity, isSkipped: true},
		{name: "an infinite goal", arguments: oneNumber(1, 1, infinity, 1), gradient: -infinity, loss: infinity, isSkipped: true},
		{name: "an infinity less an infinity", arguments: oneNumber(1, infinity, infinity, 1), gradient: nan, loss: nan, isSkipped: true},
		{name: "an infinity and 0", arguments: oneNumber(0, infinity, 0, 1), gradient: nan, loss: nan, isSkipped: true},
		{name: "a weight that is rounded down", arguments: oneNumber(1.00390625, 1, 0, 1), gradient: 2, loss: 1},
		{name: "a weight that is rounded up", arguments: oneNumber(of(0x3f808001), 1, 0, 1), gradient: 2.015625, loss: 1.01568603515625},
		{name: "a weight that is rounded to an infinity", arguments: oneNumber(greatest, leastScale, 0, 1), gradient: infinity, loss: infinity, isSkipped: true},
		{name: "x and y are not rounded", arguments: oneNumber(1, 1.00390625, 0.00390625, 1), gradient: 2.0078125, loss: 1},
		{name: "a gradient under the least", arguments: oneNumber(1, 1e-22, 0, 1024), gradient: of(0x0000000e), loss: of(0x00000007)},
		{name: "a gradient under the least with a lesser scale", arguments: oneNumber(1, 1e-22, 0, leastScale), gradient: 0, loss: 0},
	} {
		list, loss, finite, ok := c.arguments.gradients()
		wantNumbersOk(t, "ScaledGradients, "+c.name, list, ok, []float32{c.gradient})
		wantNumber(t, "ScaledGradients, "+c.name+": loss", loss, c.loss)
		wantValue(t, "ScaledGradients, "+c.name+": finite", finite, !c.isSkipped)
	}
}

func TestScaledGradientsOfEachModel(t *testing.T) {
	c := chance(310)
	finite, others := 0, 0
	for range 12 {
		for name, arguments := range c.mixed() {
			want, wantLoss, wantFinite := scaledByRule(arguments.model, arguments.x, arguments.y, arguments.scale.Scale)
			got, loss, isFinite, ok := arguments.gradients()
			wantValue(t, "ScaledGradients of "+name, textOfResult(got, loss, isFinite, ok), textOfResult(want, wantLoss, wantFinite, true))
			if isFinite {
				finite++
			} else {
				others++
			}
		}
	}
	wantValue(t, "many of both sorts", finite > 200 && others > 200, true)
}

// One gradient that is not finite is enough, wherever it stands.
func TestOneGradientThatIsNotFinite(t *testing.T) {
	const great = 1 << 53
	for place := range 8 {
		for _, number := range []float32{great, infinity, -infinity, nan} {
			m := model(layer(impl.LayerScale, 8, 8, filled(8, 1), nil))
			x := filled(8, 1)
			x[place] = number
			arguments := mixedArguments{model: m, scale: lossScale(mostScale, 5, 9), x: tensor(1, 8, x...), y: tensor(1, 8, filled(8, 0)...), rate: 0.5}
			list, _, finite, ok := arguments.gradients()
			wantOk(t, "ScaledGradients: finite", finite, ok, false)
			wantValue(t, "the others are finite", isFiniteList(append(list[:place:place], list[place+1:]...)), true)
			kept, s, finite, ok := arguments.step()
			wantModelOk(t, "a step that is not finite", kept, ok, m)
			wantValue(t, "its loss scale", s, lossScale(8388608, 0, 9))
			wantValue(t, "its finiteness", finite, false)
		}
	}
}

func TestMixedStepOfOneNumber(t *testing.T) {
	near := of(0x3f800001)
	with := func(a mixedArguments, rate float32) mixedArguments { a.rate = rate; return a }
	for _, c := range []struct {
		name      string
		arguments mixedArguments
		want      float32
		isSkipped bool
	}{
		{name: "a step", arguments: with(oneNumber(2, 3, 5, 1024), 0.25), want: 0.5},
		{name: "the 32-bit weight less the gradient of the bfloat", arguments: with(oneNumber(1.00390625, 1, 0, 1), 0.25), want: 0.50390625},
		{name: "a weight that is no bfloat stays", arguments: with(oneNumber(1.00390625, 1, 1, 1), 0.25), want: 1.00390625},
		{name: "a product that is rounded before", arguments: with(oneNumber(2, 1, near, 1), near), want: 0},
		{name: "a rate of +0", arguments: with(oneNumber(2, 3, 5, 1024), 0), want: 2},
		{name: "a rate of -0", arguments: with(oneNumber(2, 3, 5, 1024), minusZero), want: 2},
		{name: "a weight of -0 and a rate of +0", arguments: with(oneNumber(minusZero, 3, -5, 1), 0), want: minusZero},
		{name: "a weight of -0 and a rate of -0", arguments: with(oneNumber(minusZero, 3, -5, 1), minusZero), want: 0},
		{name: "a negative rate", arguments: with(oneNumber(2, 3, 5, 1024), -0.25), want: 3.5},
		{name: "an infinite rate", arguments: with(oneNumber(2, 3, 5, 1024), infinity), want: -infinity},
		{name: "a rate of -infinity", arguments: with(oneNumber(2, 3, 5, 1024), -infinity), want: infinity},
		{name: "an infinite rate and a gradient of 0", arguments: with(oneNumber(2, 3, 6, 1024), infinity), want: nan},
		{name: "a rate that is none", arguments: with(oneNumber(2, 3, 5, 1024), nan), want: nan},
		{name: "a rate that is none and a gradient of 0", arguments: with(oneNumber(2, 3, 6, 1024), nan), want: nan},
		{name: "a product over the greatest", arguments: with(oneNumber(2, 3, 5, 1024), greatest), want: -infinity},
		{name: "an infinite gradient of a step that is finite", arguments: with(oneNumber(8, 1<<62, 0, leastScale), 1), want: -infinity},
		{name: "the same with a rate of 0", arguments: with(oneNumber(8, 1<<62, 0, leastScale), 0), want: nan},
		{name: "a loss that is infinite", arguments: with(oneNumber(1<<53, 1, 0, mostScale), 0.5), want: 0},
		{name: "an infinite gradient", arguments: with(oneNumber(1, 1<<53, 0, mostScale), 0.5), want: 1, isSkipped: true},
		{name: "a gradient that is none", arguments: with(oneNumber(1, nan, 0, 1), 0.5), want: 1, isSkipped: true},
		{name: "a weight that is none", arguments: with(oneNumber(nan, 1, 0, 1), 0.5), want: nan, isSkipped: true},
		{name: "a weight of -0 that stays", arguments: with(oneNumber(minusZero, infinity, 1, 1), 0.5), want: minusZero, isSkipped: true},
		{name: "a weight that is no bfloat and not changed", arguments: with(oneNumber(1.00390625, infinity, 1, 1), 0.5), want: 1.00390625, isSkipped: true},
		{name: "a skipped step and a rate that is none", arguments: with(oneNumber(1, infinity, 1, 1), nan), want: 1, isSkipped: true},
	} {
		m, s, finite, ok := c.arguments.step()
		wantModelOk(t, "MixedStep, "+c.name, m, ok, model(layer(impl.LayerScale, 1, 1, []float32{c.want}, nil)))
		wantValue(t, "MixedStep, "+c.name+": loss scale", s, nextByRule(c.arguments.scale, !c.isSkipped))
		wantValue(t, "MixedStep, "+c.name+": finite", finite, !c.isSkipped)
	}
}

func (a mixedArguments) check(t *testing.T, name string, steps int64) {
	t.Helper()
	want, wantFinite := a.behind()
	m, s, finite, ok := a.step()
	wantModelOk(t, "MixedStep of "+name, m, ok, want.model)
	wantValue(t, "MixedStep of "+name+": loss scale", s, want.scale)
	wantValue(t, "MixedStep of "+name+": finite", finite, wantFinite)
	want, wantCount := a.behindSteps(steps)
	m, s, count, ok := a.steps(steps)
	wantModelOk(t, "MixedSteps of "+name, m, ok, want.model)
	wantValue(t, "MixedSteps of "+name+": loss scale", s, want.scale)
	wantValue(t, "MixedSteps of "+name+": how many were finite", count, wantCount)
}

func TestMixedStepsOfEachModel(t *testing.T) {
	c := chance(311)
	for round := range 3 {
		for name, arguments := range c.mixed() {
			arguments.rate = []float32{0.01, c.small(), c.anyList(1)[0]}[round]
			arguments.check(t, name, int64(c.below(5)))
		}
	}
}

func TestMixedStepsWithEachRate(t *testing.T) {
	c := chance(312)
	for _, rate := range edges() {
		arguments := toldNet()
		arguments.rate = rate
		arguments.check(t, "a net", 2)
		arguments = oneNumber(c.small(), c.small(), c.small(), c.anyScale())
		arguments.rate = rate
		arguments.check(t, "one number", 3)
	}
}

func TestMixedStepsOfEachNumber(t *testing.T) {
	c := chance(313)
	for steps := range int64(51) {
		toldNet().check(t, "a net", steps)
		arguments := fitted(c.tapedModels()["each kind"], 3, c.smallList)
		arguments.rate = 1 // so that the numbers grow until a step is not finite
		arguments.check(t, "a net that grows", steps)
	}
	for _, steps := range append(anyIntegers(), 51, 52, -2, 1<<32) {
		if 0 <= steps && steps <= 50 {
			continue
		}
		m, s, finite, ok := toldNet().steps(steps)
		wantFailed(t, "MixedSteps of another number", several{m, s, finite}, ok)
	}
}

// With the weight 1 and this input, gradients overflow with scales greater
// than 1048576, and a rate of 0 keeps it so.
func TestStepsThatAreNotFiniteInEachPlace(t *testing.T) {
	const great = 1 << 53
	for _, c := range []struct {
		name        string
		scale       impl.LossScale
		steps, want int64
		wantScale   impl.LossScale
	}{
		{"no steps", lossScale(mostScale, 3, 1), 0, 0, lossScale(mostScale, 3, 1)},
		{"the first four", lossScale(mostScale, 3, 9), 4, 0, lossScale(1048576, 0, 9)},
		{"the first four of five", lossScale(mostScale, 3, 9), 5, 1, lossScale(1048576, 1, 9)},
		{"the last", lossScale(524288, 0, 1), 3, 2, lossScale(1048576, 0, 1)},
		{"none", lossScale(524288, 0, 1), 2, 2, lossScale(2097152, 0, 1)},
		{"the last of four", lossScale(524288, 1, 2), 4, 3, lossScale(1048576, 0, 2)},
		{"one in between", lossScale(524288, 1, 2), 5, 4, lossScale(1048576, 1, 2)},
		{"each second", lossScale(1048576, 0, 1), 7, 4, lossScale(2097152, 0, 1)},
		{"the first, the last and others", lossScale(2097152, 0, 2), 7, 4, lossScale(1048576, 0, 2)},
		{"most steps", lossScale(leastScale, 0, 1), 50, 42, lossScale(1048576, 0, 1)},
	} {
		arguments := oneNumber(1, great, 0, 0)
		arguments.scale = c.scale
		m, s, finite, ok := arguments.steps(c.steps)
		wantModelOk(t, "MixedSteps, "+c.name, m, ok, arguments.model)
		wantValue(t, "MixedSteps, "+c.name+": loss scale", s, c.wantScale)
		wantValue(t, "MixedSteps, "+c.name+": how many were finite", finite, c.want)
	}
	// A rate that takes all of the weight away with the first finite step.
	arguments := oneNumber(1, great, 0, mostScale)
	arguments.rate = float32(math.Ldexp(1, -107))
	for steps := range int64(51) {
		want := float32(1)
		if steps > 4 {
			want = 0
		}
		m, _, finite, ok := arguments.steps(steps)
		wantModelOk(t, "MixedSteps", m, ok, model(layer(impl.LayerScale, 1, 1, []float32{want}, nil)))
		wantValue(t, "MixedSteps: how many were finite", finite, max(steps-4, 0))
	}
}

// There are models with more parameters than an optimiser takes.
func TestMixedStepsOfTheMostParameters(t *testing.T) {
	c := chance(314)
	most := fitted(c.tapedModels()["the most dense"], 16, c.smallList)
	list, _, _, ok := most.gradients()
	wantOk(t, "ScaledGradients of the most parameters", len(list), ok, 432)
	most.rate = 1e-12
	most.check(t, "the most parameters", 3)
	none := fitted(model(c.smallLayer(impl.LayerRelu, 4, 4)), 3, c.anyList)
	none.scale = lossScale(8, 0, 1)
	list, _, finite, ok := none.gradients()
	wantNumbersOk(t, "ScaledGradients without parameters", list, ok, nil)
	wantValue(t, "their finiteness", finite, true)
	m, s, count, ok := none.steps(5)
	wantModelOk(t, "MixedSteps without parameters", m, ok, none.model)
	wantValue(t, "their loss scale", s, lossScale(256, 0, 1))
	wantValue(t, "how many were finite", count, 5)
}

func (a mixedArguments) wantFailed(t *testing.T, what string) {
	t.Helper()
	list, loss, finite, ok := a.gradients()
	wantFailed(t, "ScaledGradients with "+what, several{list, loss, finite}, ok)
	a.wantNoSteps(t, what)
}

func (a mixedArguments) wantNoSteps(t *testing.T, what string) {
	t.Helper()
	m, s, finite, ok := a.step()
	wantFailed(t, "MixedStep with "+what, several{m, s, finite}, ok)
	for _, steps := range []int64{-1, 0, 1, 50, 51} {
		m, s, count, ok := a.steps(steps)
		wantFailed(t, fmt.Sprintf("%d MixedSteps with %s", steps, what), several{m, s, count}, ok)
	}
}

func TestScalesOfMixedSteps(t *testing.T) {
	for _, scale := range scales() {
		net := toldNet()
		net.scale.Scale = scale
		net.check(t, "a net with a scale", 3)
		want, wantLoss, _ := scaledByRule(net.model, net.x, net.y, scale)
		list, loss, finite, ok := net.gradients()
		wantNumbersOk(t, "ScaledGradients with a scale", list, ok, want)
		wantNumber(t, "ScaledGradients with a scale: loss", loss, wantLoss)
		wantValue(t, "ScaledGradients with a scale: finite", finite, true)
	}
	for _, scale := range otherScales() {
		net := toldNet()
		net.scale.Scale = scale
		net.wantFailed(t, "another scale")
	}
	for _, s := range otherLossScales() {
		net := toldNet()
		net.scale = s
		net.wantNoSteps(t, "another loss scale")
	}
}

func TestModelsThatHaveNoMixedSteps(t *testing.T) {
	c := chance(315)
	for name, broken := range brokenModels() {
		for size := int64(1); size <= 3; size++ {
			for _, x := range []impl.Tensor{c.smallTensor(2, size), c.smallTensor(1, 1)} {
				mixedArguments{broken, lossScale(1, 0, 1), x, c.smallTensor(x.Rows, size), 0.5}.wantFailed(t, name)
			}
		}
	}
	for _, kind := range []int64{impl.LayerTanh, impl.LayerSoftmax, impl.LayerNorm} {
		for place := range 3 {
			layers := []impl.Layer{c.smallLayer(0, 2, 2), c.smallLayer(1, 2, 2), c.smallLayer(2, 2, 2)}
			layers[place] = c.smallLayer(kind, 2, 2)
			fitted(model(layers...), 2, c.smallList).wantFailed(t, "another kind of layer")
		}
	}
}

func TestTensorsThatDoNotFitMixedSteps(t *testing.T) {
	c := chance(316)
	for name, m := range c.tapedModels() {
		valid := fitted(m, 2, c.smallList)
		for columns := int64(1); columns <= 9; columns++ {
			other := valid
			if other.x = c.smallTensor(2, columns); columns != valid.x.Columns {
				other.wantFailed(t, name+" and other columns of x")
			}
			other = valid
			if other.y = c.smallTensor(2, columns); columns != valid.y.Columns {
				other.wantFailed(t, name+" and other columns of y")
			}
		}
		for _, rows := range []int64{1, 3, 16} {
			other := valid
			other.x = c.smallTensor(rows, valid.x.Columns)
			other.wantFailed(t, name+" and other rows of x")
			other = valid
			other.y = c.smallTensor(rows, valid.y.Columns)
			other.wantFailed(t, name+" and other rows of y")
		}
		for kind, broken := range brokenTensors() {
			other := valid
			other.x = broken
			other.wantFailed(t, name+" and x: "+kind)
			other.y = broken
			other.wantFailed(t, name+" and both: "+kind)
			other.x = valid.x
			other.wantFailed(t, name+" and y: "+kind)
		}
	}
}
