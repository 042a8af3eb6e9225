package tests

import (
	"math"
	"math/big"
	"slices"

	"loop.example/g01157/impl"
)

var (
	leastScale = of(0x38800000) // 1/16384
	mostScale  = of(0x4b800000)
)

// scales has numbers that are scales, and the ones next to the ends.
func scales() []float32 {
	return []float32{leastScale, of(0x38800001), of(0x38ffffff), 0.1, 1, 1024, 1000.3, 8388608, 8388609, of(0x4b7fffff), mostScale}
}

func otherScales() []float32 {
	return []float32{
		of(0x387fffff), of(0x4b800001), 0, minusZero, least, -least, -1, -leastScale, -1024, -mostScale, 33554432,
		greatest, -greatest, infinity, -infinity, nan, of(0xffc00001), of(0x7f800001),
	}
}

func lossScale(scale float32, good, grow int64) impl.LossScale {
	return impl.LossScale{Scale: scale, Good: good, Grow: grow}
}

// otherLossScales has loss scales that are not valid, each in one way.
func otherLossScales() []impl.LossScale {
	var list []impl.LossScale
	for _, scale := range otherScales() {
		list = append(list, lossScale(scale, 0, 1), lossScale(scale, 1000, 1000))
	}
	for _, n := range []int64{-1, -2, 1001, 1002, 1 << 32, math.MaxInt64, math.MinInt64} {
		list = append(list, lossScale(1024, n, 1), lossScale(1024, 0, n))
	}
	return append(list, lossScale(1024, 0, 0), impl.LossScale{})
}

// nextByRule is the text of the document.
func nextByRule(s impl.LossScale, finite bool) impl.LossScale {
	if !finite {
		s.Good = 0
		if s.Scale = s.Scale / 2; s.Scale < leastScale {
			s.Scale = leastScale
		}
		return s
	}
	s.Good = s.Good + 1
	if s.Good >= s.Grow {
		s.Good = 0
		if s.Scale = s.Scale * 2; s.Scale > mostScale {
			s.Scale = mostScale
		}
	}
	return s
}

// scaledByRule takes the operations that the document lists, and goes back
// over them with its table.
func scaledByRule(m impl.Model, x, y impl.Tensor, scale float32) (list []float32, loss float32, finite bool) {
	rounded := paramsByRule(m)
	for i, w := range rounded {
		rounded[i] = bfloatByDistance(w)
	}
	tape, weights := modelTapeByRule(withParamsByRule(m, rounded), x, y)
	last := &tape[len(tape)-1]
	last.Number = float32(last.Number * scale)
	gradients := gradientsByRule(tape)
	finite = true
	for _, index := range weights {
		for _, g := range gradients[index].data {
			finite = finite && g-g == 0
			list = append(list, g/scale)
		}
	}
	values := valuesByRule[float32](tape)
	return list, values[len(values)-1].data[0] / scale, finite
}

// mixedArguments are what mixed steps take.
type mixedArguments struct {
	model impl.Model
	scale impl.LossScale
	x, y  impl.Tensor
	rate  float32
}

func (a mixedArguments) gradients() ([]float32, float32, bool, bool) {
	return impl.ScaledGradients(a.model, a.x, a.y, a.scale.Scale)
}

func (a mixedArguments) step() (impl.Model, impl.LossScale, bool, bool) {
	return impl.MixedStep(a.model, a.scale, a.x, a.y, a.rate)
}

func (a mixedArguments) steps(count int64) (impl.Model, impl.LossScale, int64, bool) {
	return impl.MixedSteps(a.model, a.scale, a.x, a.y, a.rate, count)
}

// behind has the model and the loss scale that the text of the document makes
// of those of a, and tells whether the step was finite.
func (a mixedArguments) behind() (mixedArguments, bool) {
	gradients, _, finite := scaledByRule(a.model, a.x, a.y, a.scale.Scale)
	params := paramsByRule(a.model)
	for i, g := range gradients {
		if finite {
			product := float32(a.rate * g)
			params[i] = params[i] - product
		}
	}
	a.model, a.scale = withParamsByRule(a.model, params), nextByRule(a.scale, finite)
	return a, finite
}

// behindSteps makes so many steps, and tells how many were finite.
func (a mixedArguments) behindSteps(count int64) (mixedArguments, int64) {
	finite := int64(0)
	for range count {
		next, isFinite := a.behind()
		if isFinite {
			finite++
		}
		a = next
	}
	return a, finite
}

// fitted has tensors of rows that fit m, with numbers that list makes.
func fitted(m impl.Model, rows int64, list func(count int) []float32) mixedArguments {
	in, out := m.Layers[0].In, m.Layers[len(m.Layers)-1].Out
	return mixedArguments{
		model: m, scale: lossScale(1024, 0, 2), rate: 0.01,
		x: tensor(rows, in, list(int(rows*in))...), y: tensor(rows, out, list(int(rows*out))...),
	}
}

// oneNumber has a model of one scale layer, which makes the product of w and
// x. With the goal 0, the gradient is twice w and the square of x.
func oneNumber(w, x, goal, scale float32) mixedArguments {
	m := model(layer(impl.LayerScale, 1, 1, []float32{w}, nil))
	return mixedArguments{model: m, scale: lossScale(scale, 0, 1), x: tensor(1, 1, x), y: tensor(1, 1, goal)}
}

// anyScale is a power of 2, the end of the range of scales, or between both.
func (c *chance) anyScale() float32 {
	switch c.below(3) {
	case 0:
		return float32(math.Ldexp(1, c.below(39)-14))
	case 1:
		return scales()[c.below(len(scales()))]
	}
	return float32(math.Exp(float64(c.below(2600))/100 - 9.6))
}

// mixed has arguments of steps with models of each sort, most of which make
// finite steps, others none, and others only with lesser scales.
func (c *chance) mixed() map[string]mixedArguments {
	list := map[string]mixedArguments{}
	for name, m := range c.tapedModels() {
		for i, numbers := range []func(int) []float32{c.smallList, c.mixedList, c.anyList} {
			arguments := fitted(m, []int64{1, 3, 16, 7}[c.below(4)], numbers)
			arguments.scale = lossScale(c.anyScale(), int64(c.below(4)), int64(1+c.below(3)))
			list[name+" "+impl.Decimal(int64(i))] = arguments
		}
	}
	for exponent := range 30 {
		arguments := oneNumber(1, float32(math.Ldexp(1, 40+exponent)), 0, 1024)
		list["great numbers "+impl.Decimal(int64(exponent))] = arguments
	}
	return list
}

func isFiniteList(list []float32) bool {
	return !slices.ContainsFunc(list, func(x float32) bool { return x-x != 0 })
}

// isSpreadByRule is the text of the document.
func isSpreadByRule(x float32) bool {
	return x >= 0 && !math.Signbit(float64(x)) && !math.IsInf(float64(x), 0)
}

// spreads has numbers that are spreads, and others has some that are none.
func spreads() (spreads, others []float32) {
	for _, x := range append(edges(), 0.3, 1e-20, 1e20, of(0x00000003), -0.5, of(0x80000002)) {
		if isSpreadByRule(x) {
			spreads = append(spreads, x)
		} else {
			others = append(others, x)
		}
	}
	return spreads, others
}

// floorByRule returns the greatest integer that is not greater than q, with
// integers of any size, and by how much it is less.
func floorByRule(q float64) (*big.Int, *big.Rat) {
	exact := new(big.Rat).SetFloat64(q)
	floor := new(big.Int).Div(exact.Num(), exact.Denom())
	return floor, new(big.Rat).Sub(exact, new(big.Rat).SetInt(floor))
}

func limitedByRule(n *big.Int) int64 {
	switch most := big.NewInt(127); {
	case n.CmpAbs(most) <= 0:
		return n.Int64()
	case n.Sign() > 0:
		return 127
	}
	return -127
}

// codeByRule and codeByChance are the text of the document for one number.
func codeByRule(x, spread float32) int64 {
	if spread == 0 {
		return 0
	}
	floor, rest := floorByRule(float64(x) / float64(spread))
	half := rest.Cmp(big.NewRat(1, 2))
	if half > 0 || half == 0 && floor.Bit(0) == 1 {
		floor.Add(floor, big.NewInt(1))
	}
	return limitedByRule(floor)
}

func codeByChance(x, spread float32, chance int64) int64 {
	if spread == 0 {
		return 0
	}
	floor, rest := floorByRule(float64(x) / float64(spread))
	difference, _ := rest.Float64()
	if float64(difference*256) > float64(chance) {
		floor.Add(floor, big.NewInt(1))
	}
	return limitedByRule(floor)
}

// spreadByRule is the text of the document, for finite numbers.
func spreadByRule(list []float32) float32 {
	var most float32
	for _, x := range list {
		if size := absoluteOf(x); size > most {
			most = size
		}
	}
	return most / 127
}

// coded has finite numbers of each sort, count of them: small ones, those of
// a great and of a little size, quarters, edges, and equal ones.
func (c *chance) coded(count int) [][]float32 {
	sized := func(size float32) []float32 {
		list := c.smallList(count)
		for i := range list {
			list[i] *= size
		}
		return list
	}
	quarters, named := make([]float32, count), make([]float32, count)
	for i := range count {
		quarters[i] = float32(c.below(1201)-600) / 4
		for named[i] = c.anyList(1)[0]; !isFiniteList(named[i : i+1]); {
			named[i] = c.anyList(1)[0]
		}
	}
	return [][]float32{sized(1), sized(1e35), sized(1e-38), sized(1e-44), quarters, named, filled(count, c.small())}
}

// chances has numbers from 0 to 255, often those at the ends.
func (c *chance) chances(count int) []int64 {
	list := make([]int64, count)
	for i := range list {
		list[i] = []int64{0, 255, int64(c.below(256)), 64 * int64(c.below(4))}[c.below(4)]
	}
	return list
}

// codes has numbers from -127 to 127, often those at the ends.
func (c *chance) codes(count int) []int64 {
	list := make([]int64, count)
	for i := range list {
		list[i] = []int64{-127, 127, 0, int64(c.below(255) - 127)}[c.below(4)]
	}
	return list
}

func filledCodes(count int, n int64) []int64 { return slices.Repeat([]int64{n}, count) }

// roomyIntegers returns a copy of a list with unused capacity behind it.
func roomyIntegers(list []int64) []int64 {
	return append(slices.Clone(list), filledCodes(300, 3)...)[:len(list)]
}

// rawIntegers returns a copy of a list with its unused capacity.
func rawIntegers(list []int64) []int64 { return slices.Clone(list[:cap(list)]) }
