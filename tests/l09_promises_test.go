package tests

import (
	"fmt"
	"slices"
	"strings"
	"testing"

	"loop.example/g01157/impl"
)

func TestExamplesOfChapter9(t *testing.T) {
	c := chance(640)
	m := model(c.smallLayer(impl.LayerDense, 2, 3), layer(impl.LayerRelu, 3, 3, nil, nil), layer(impl.LayerSoftmax, 3, 3, nil, nil))
	p, ok := impl.CompileModel(m)
	wantValue(t, "CompileModel: success", ok, true)
	text, ok := impl.PlanText(p)
	wantOk(t, "the plan of a dense, a Relu and a softmax layer", text, ok, "dense+2>3 softmax3>3")
	products, ok := impl.PlanProducts(p)
	wantOk(t, "the products of this plan", products, ok, 6)
	none, ok := impl.CompileModel(model(layer(impl.LayerScale, 2, 2, []float32{1, 1}, nil)))
	wantValue(t, "CompileModel of ones: success", ok, true)
	text, ok = impl.PlanText(none)
	wantOk(t, "the plan of a scale layer of ones", text, ok, "none")
}

// wantCompiled requires the plan of m to make of each list what the layers of
// m make of it, bit for bit, alone and as a row.
func wantCompiled(t *testing.T, name string, m impl.Model, lists [][]float32) {
	t.Helper()
	p, ok := impl.CompileModel(m)
	wantPlanOk(t, "CompileModel of "+name, p, ok, compileByRule(m))
	for from := 0; from < len(lists); from += impl.MaxSide {
		part := lists[from:min(from+impl.MaxSide, len(lists))]
		x := tensor(int64(len(part)), int64(len(part[0])), slices.Concat(part...)...)
		plain, ok := impl.RunModel(m, x)
		wantValue(t, "RunModel of "+name+": success", ok, true)
		rows, ok := impl.RunPlanRows(p, x)
		wantTensorOk(t, "the plan of "+name, rows, ok, plain)
		for row := range x.Rows {
			list := rowTensor(x, row)
			made, ok := impl.RunPlan(p, list.Data)
			wantNumbersOk(t, "the plan of "+name+" for numbers", made, ok, rowTensor(plain, row).Data)
			alone, ok := impl.RunPlanRows(p, list)
			wantTensorOk(t, "the plan of "+name+" for a row", alone, ok, rowTensor(plain, row))
			byRule := stagesByRule(m, list.Data)
			wantNumbersOk(t, "the layers of "+name+" by the rule", made, ok, byRule[len(byRule)-1])
		}
	}
}

// compilable is a model of count layers, many of which have no steps of their
// own.
func (c *chance) compilable(count int, list func(count int) []float32) impl.Model {
	var m impl.Model
	number := func() float32 { return list(1)[0] }
	size := int64(1 + c.below(8))
	for range count {
		kind := []int64{0, 0, 0, 1, 1, 1, 2, 2, 2, 3, 4, 5}[c.below(12)]
		l := layerOf(kind, size, int64(1+c.below(8)), number)
		if kind == impl.LayerScale && c.below(2) == 0 {
			l.Weights = filled(int(size), 1)
		}
		m.Layers = append(m.Layers, l)
		size = l.Out
	}
	return m
}

func TestCompiledModelsMakeTheSame(t *testing.T) {
	c := chance(641)
	lists := []func(int) []float32{c.smallList, c.mixedList, c.anyList, c.tinyList, c.namedList}
	for name, m := range c.models() {
		for _, list := range lists {
			wantCompiled(t, name, withNumbers(m, list), c.inputs(int(m.Layers[0].In)))
		}
	}
	for range 1200 {
		for i, list := range lists {
			m := c.compilable(1+c.below(impl.MaxLayers), list)
			wantCompiled(t, "any model of numbers "+impl.Decimal(int64(i)), m, c.inputs(int(m.Layers[0].In)))
		}
	}
}

// Relu behind each sort of layer, and scale layers of any weight, for each
// number of edges.
func TestCompiledModelsOfEachNumber(t *testing.T) {
	relu := layer(impl.LayerRelu, 2, 2, nil, nil)
	ones := layer(impl.LayerScale, 2, 2, []float32{1, 1}, nil)
	for _, x := range edges() {
		lists := [][]float32{{x, x}, {x, 1}, {1, x}, {x, -0.3}, {minusZero, x}, {x, nan}, {infinity, x}}
		scale := layer(impl.LayerScale, 2, 2, []float32{x, -1}, nil)
		unit := dense(2, 2, []float32{1, 0, 0, 1}, []float32{minusZero, minusZero})
		with := dense(2, 2, []float32{x, 1, -1, x}, []float32{0, x})
		norm := layer(impl.LayerNorm, 2, 2, []float32{x, 1}, []float32{minusZero, x})
		for _, l := range []impl.Layer{relu, ones, scale, unit, with, norm, layer(impl.LayerTanh, 2, 2, nil, nil), layer(impl.LayerSoftmax, 2, 2, nil, nil)} {
			for _, layers := range [][]impl.Layer{{l}, {l, relu}, {l, relu, relu}, {l, ones, relu}, {l, scale}, {l, scale, relu}, {l, relu, scale}, {l, scale, scale}, {ones, l, ones, scale, ones, relu}} {
				wantCompiled(t, "a model of an edge", model(layers...), lists)
			}
		}
	}
}

// The bits that two models and their plans make, computed in another language.
func TestToldBitsOfPlans(t *testing.T) {
	c := func(kind int64, weights ...float32) impl.Layer { return layer(kind, 3, 3, weights, nil) }
	first := dense(2, 3, []float32{0.7, -1.3, 0.2, 0.9, -0.4, 0.6}, []float32{-0.25, 0.1, 0.05})
	scale := c(impl.LayerScale, -1.7, 0.3, 2.9)
	norm := layer(impl.LayerNorm, 3, 3, []float32{-2.1, 0.6, 0.9}, []float32{0.3, -0.4, 0.7})
	last := dense(3, 4, []float32{1.1, -0.9, 0.35, 2.7, -3.1, 0.01, 0.5, 0.6, -0.7, 0.15, 0.25, -0.35}, []float32{0.3, 2.2, 1.7, 0.1})
	for _, told := range []struct {
		model impl.Model
		text  string
		runs  map[[2]float32][]uint32
	}{
		{model(first, scale, c(impl.LayerRelu), norm, last, layer(impl.LayerRelu, 4, 4, nil, nil)), "dense*2>3 relu3>3 norm3>3 dense+3>4", map[[2]float32][]uint32{
			{0.1, -0.7}: {0x3f9e147b, 0x40883958, 0x3f8f5c2a, 0}, {-2.5, 0.3}: {0x3e6e133e, 0x40075fe3, 0, 0}, {1.25, 6.5}: {0, 0x3f7e1166, 0, 0}, {1e-38, -1e-40}: {0, 0, 0, 0},
			{nan, 1}: {0x7fc00000, 0x7fc00000, 0x7fc00000, 0x7fc00000}, {minusZero, -infinity}: {0x3f9e147b, 0x40883958, 0x3f8f5c2a, 0}, {3e38, -3e38}: {0x3f9e147b, 0x40883958, 0x3f8f5c2a, 0},
		}},
		{model(first, c(impl.LayerScale, 1, 1, 1), c(impl.LayerRelu), c(impl.LayerTanh), scale, c(impl.LayerSoftmax)), "dense+2>3 tanh3>3 scale3>3 softmax3>3", map[[2]float32][]uint32{
			{0.1, -0.7}: {0x3e174bc6, 0x3eda2d0e, 0x3eda2d0e}, {-2.5, 0.3}: {0x3d978eaf, 0x3d978eaf, 0x3f5a1c55}, {1.25, 6.5}: {0x3d489b01, 0x3d8764eb, 0x3f6289b4}, {1e-38, -1e-40}: {0x3ea0b0bc, 0x3ea59150, 0x3eb9bdf4},
			{nan, 1}: {0x7fc00000, 0x7fc00000, 0x7fc00000}, {infinity, 1}: {0x3d93bb39, 0x3f08730b, 0x3eca2b1b}, {minusZero, -infinity}: {0x3dab6934, 0x3eea92da, 0x3eea92da},
		}},
	} {
		p, ok := impl.CompileModel(told.model)
		wantValue(t, "CompileModel: success", ok, true)
		text, ok := impl.PlanText(p)
		wantOk(t, "the plan", text, ok, told.text)
		for x, bits := range told.runs {
			made, ok := impl.RunPlan(p, x[:])
			wantNumbersOk(t, "a plan", made, ok, numbersOf(bits))
			stages, ok := impl.StagesOf(told.model, x[:])
			wantNumbersOk(t, "a model", stages[5], ok, numbersOf(bits))
		}
	}
}

// planArguments are what the functions of chapter 9 take.
type planArguments struct {
	plan         impl.Plan
	model, other impl.Model
	x            impl.Tensor
	list         []float32
	n            int64
}

func firstLayer(m impl.Model) impl.Layer {
	if len(m.Layers) == 0 {
		return impl.Layer{}
	}
	return m.Layers[0]
}

type planCall func(a planArguments) (several, bool)

// planCalls has the functions of chapter 9.
func planCalls() map[string]planCall {
	one := func(result any, ok bool) (several, bool) { return several{result}, ok }
	return map[string]planCall{
		"ValidPlan":    func(a planArguments) (several, bool) { return one(impl.ValidPlan(a.plan), true) },
		"CompileModel": func(a planArguments) (several, bool) { return one(first(impl.CompileModel(a.model))) },
		"RunPlan":      func(a planArguments) (several, bool) { return one(first(impl.RunPlan(a.plan, a.list))) },
		"RunPlanRows":  func(a planArguments) (several, bool) { return one(first(impl.RunPlanRows(a.plan, a.x))) },
		"PlanProducts": func(a planArguments) (several, bool) { return one(first(impl.PlanProducts(a.plan))) },
		"PlanRoom":     func(a planArguments) (several, bool) { return one(first(impl.PlanRoom(a.plan))) },
		"PlanText":     func(a planArguments) (several, bool) { return one(first(impl.PlanText(a.plan))) },
		"FuseLinear": func(a planArguments) (several, bool) {
			return one(first(impl.FuseLinear(firstLayer(a.model), firstLayer(a.other))))
		},
		"IsWhole":    func(a planArguments) (several, bool) { return one(impl.IsWhole(firstLayer(a.model), a.n), true) },
		"SplitModel": func(a planArguments) (several, bool) { return pair(impl.SplitModel(a.model, a.n)) },
		"JoinModels": func(a planArguments) (several, bool) { return one(first(impl.JoinModels(a.model, a.other))) },
	}
}

// roomyPlanned returns a copy of a with unused capacity everywhere.
func roomyPlanned(a planArguments) planArguments {
	a.plan, a.model, a.other = roomyPlan(a.plan), roomyModel(a.model), roomyModel(a.other)
	a.x, a.list = roomy(a.x), roomyList(a.list)
	return a
}

// rawPlanned shows all of a, with its unused capacity.
func rawPlanned(a planArguments) string {
	return rawPlan(a.plan) + modelText(a.model) + modelText(a.other) + textOfResult(a.x.Rows, a.x.Columns, rawBits(a.x.Data), rawBits(a.list), a.n)
}

// somePlanned has arguments with which the functions succeed, and others.
func (c *chance) somePlanned() map[string]planArguments {
	list := map[string]planArguments{}
	add := func(name string, p impl.Plan, m, other impl.Model) {
		columns := int64(1)
		switch {
		case len(p.Steps) > 0:
			columns = max(1, min(p.Steps[0].In, 9))
		case len(m.Layers) > 0:
			columns = max(1, min(m.Layers[0].In, 9))
		}
		list[name] = planArguments{p, m, other, c.anyTensor(3, columns), c.anyList(int(columns)), int64(c.below(4))}
	}
	models := c.models()
	for name, m := range models {
		m = withNumbers(m, c.mixedList)
		last := m.Layers[len(m.Layers)-1]
		add("the plan of "+name, compileByRule(m), m, model(c.smallLayer(impl.LayerDense, last.Out, 2)))
		add("the plan and a dense layer of "+name, compileByRule(m), model(c.smallLayer(impl.LayerDense, 2, m.Layers[0].In)), m)
		add(name+" twice", compileByRule(m), m, m)
	}
	for name, p := range c.plans() {
		m := c.compilable(1+c.below(impl.MaxLayers), c.mixedList)
		add(name, p, m, c.compilable(1, c.mixedList))
		add(name+" with small integers", p, model(c.wholeLayer(2, 3, 1)), model(c.wholeLayer(3, 2, 2)))
	}
	for name, broken := range brokenPlans() {
		if !strings.Contains(name, " one: ") {
			add("broken plan: "+name, broken, models["a net"], models["a net"])
		}
	}
	for name, broken := range brokenModels() {
		add("broken model: "+name, impl.Plan{}, broken, models["a net"])
		add("broken other model: "+name, impl.Plan{}, models["a net"], broken)
	}
	shared := c.smallList(4)
	same := dense(2, 2, shared, shared[:2])
	step := withScales(stepFor(same), shared[2:]...)
	add("one list in several places", plan(step, step), model(same, layer(impl.LayerScale, 2, 2, shared[1:3], nil), same), model(same, same))
	return list
}

func TestArgumentsOfPlansAreNotChanged(t *testing.T) {
	c := chance(642)
	for name, tight := range c.somePlanned() {
		arguments := roomyPlanned(tight)
		before, beforeTight := rawPlanned(arguments), rawPlanned(tight)
		for function, call := range planCalls() {
			checkCall(t, function+" of "+name, func() (several, bool) { return call(arguments) })
			checkCall(t, function+" of "+name, func() (several, bool) { return call(tight) })
			got, ok := call(arguments)
			want, wantOk := call(tight)
			wantValue(t, function+" with unused capacity of "+name, textOfResult(got, ok), textOfResult(want, wantOk))
		}
		wantValue(t, "the arguments of "+name, rawPlanned(arguments), before)
		wantValue(t, "the arguments without capacity of "+name, rawPlanned(tight), beforeTight)
	}
}

func TestSlicesOfPlansAreApart(t *testing.T) {
	c := chance(643)
	for name, arguments := range c.somePlanned() {
		a := roomyPlanned(arguments)
		for range 2 {
			parts := slices.Concat(listsOfPlan(a.plan), paramLists(a.model), paramLists(a.other), [][]float32{a.x.Data, a.list})
			compiled, _ := impl.CompileModel(a.model)
			again, _ := impl.CompileModel(a.model)
			left, right, _ := impl.SplitModel(a.model, a.n)
			joined, _ := impl.JoinModels(a.model, a.other)
			twice, _ := impl.JoinModels(a.model, a.model)
			made, _ := impl.RunPlan(a.plan, a.list)
			rows, _ := impl.RunPlanRows(a.plan, a.x)
			fused, _ := impl.FuseLinear(firstLayer(a.model), firstLayer(a.other))
			results := slices.Concat(listsOfPlan(compiled), listsOfPlan(again), paramLists(left), paramLists(right), paramLists(joined), paramLists(twice),
				[][]float32{made, rows.Data, fused.Weights, fused.Bias})
			wantResultsApart(t, "results of "+name, results, parts)
			// Without unused capacity, a result could be a part of an argument.
			a = arguments
		}
	}
}

// wantResultsApart requires that no two results share memory, and none with
// an argument; arguments can share it with each other.
func wantResultsApart(t *testing.T, what string, results, arguments [][]float32) {
	t.Helper()
	before := textOfResult(arguments)
	wantApart(t, what, results)
	wantValue(t, what+" and the arguments", textOfResult(arguments), before)
}

// The lists of steps and layers are new ones too.
func TestListsOfPlansAreApart(t *testing.T) {
	c := chance(644)
	for name, m := range c.models() {
		m := roomyModel(m)
		before := modelText(m)
		for at := 1; at < len(m.Layers); at++ {
			left, right, _ := impl.SplitModel(m, int64(at))
			want := textOfResult(right)
			clear(left.Layers[:cap(left.Layers)])
			wantValue(t, "the other layers of "+name, textOfResult(right), want)
			left, _, _ = impl.SplitModel(m, int64(at))
			want = textOfResult(left)
			clear(right.Layers[:cap(right.Layers)])
			wantValue(t, "the first layers of "+name, textOfResult(left), want)
			joined, _ := impl.JoinModels(left, model(m.Layers[at:]...))
			clear(joined.Layers[:cap(joined.Layers)])
			wantValue(t, "the first layers of "+name+" behind joining", textOfResult(left), want)
		}
		p, _ := impl.CompileModel(m)
		again, _ := impl.CompileModel(m)
		want := textOfResult(again)
		clear(p.Steps[:cap(p.Steps)])
		wantValue(t, "the steps of "+name, textOfResult(again), want)
		wantValue(t, "the model "+name, modelText(m), before)
	}
}

// All not-a-numbers are one value, so that their other bits change no result.
func TestOtherNotANumbersOfPlansChangeNoResult(t *testing.T) {
	c := chance(645)
	with := func(list []float32, bits uint32) []float32 {
		list = slices.Clone(list)
		for i, x := range list {
			if isNan(x) {
				list[i] = of(bits)
			}
		}
		return list
	}
	withModel := func(m impl.Model, bits uint32) impl.Model {
		layers := slices.Clone(m.Layers)
		for i, l := range layers {
			layers[i].Weights, layers[i].Bias = with(l.Weights, bits), with(l.Bias, bits)
		}
		return model(layers...)
	}
	for name, a := range c.somePlanned() {
		for function, call := range planCalls() {
			want, wantOk := call(a)
			for _, bits := range []uint32{0xffc00000, 0x7f800001, 0xffffffff} {
				b := planArguments{plan(slices.Clone(a.plan.Steps)...), withModel(a.model, bits), withModel(a.other, bits), a.x, with(a.list, bits), a.n}
				b.x.Data = with(a.x.Data, bits)
				for i, s := range b.plan.Steps {
					s.Weights, s.Bias, s.Scales = with(s.Weights, bits), with(s.Bias, bits), with(s.Scales, bits)
					b.plan.Steps[i] = s
				}
				got, ok := call(b)
				wantValue(t, function+" with other bits of "+name, textOfResult(got, ok), textOfResult(want, wantOk))
			}
		}
	}
}

func TestEachFunctionOfPlansReturnsTheSameForAllIntegers(t *testing.T) {
	integers := append(anyIntegers(), 3, 4, 5, 6, 7, 8, 9, 999, 1000, 1001, -2)
	numbers := filled(4, 1)
	square := tensor(2, 2, numbers...)
	relu := model(layer(1, 2, 2, nil, nil), layer(1, 2, 2, nil, nil))
	for _, n := range integers {
		for _, m := range integers {
			kinds := layer(n, m, m, nil, nil)
			sizes := dense(n, m, numbers, numbers[:2])
			around := dense(m, n, numbers[:2], numbers[:1])
			for i, a := range []planArguments{
				{plan(stepFor(kinds)), model(kinds), model(kinds), square, numbers[:2], n},
				{plan(withRelu(stepFor(sizes))), model(sizes), model(around), square, numbers, m},
				{plan(withScales(stepFor(sizes), 1, 2)), model(sizes), relu, square, numbers[:2], m},
				{plan(withRelu(stepFor(kinds))), relu, model(kinds), tensor(n, m, numbers...), numbers, n},
				{plan(stepFor(sizes), stepFor(kinds)), model(sizes, kinds), model(sizes), tensor(m, n, numbers...), numbers[:1], n},
				{plan(), relu, relu, tensor(n, m, numbers...), numbers, n},
			} {
				for name, call := range planCalls() {
					checkCall(t, fmt.Sprintf("%s %d of %d and %d", name, i, n, m), func() (several, bool) { return call(a) })
				}
			}
		}
	}
}

func TestEachFunctionOfPlansReturnsTheSameForAllNumbers(t *testing.T) {
	for _, x := range edges() {
		for _, y := range edges() {
			l := dense(2, 2, []float32{x, y, y, 1}, []float32{y, x})
			scale := layer(impl.LayerScale, 2, 2, []float32{x, y}, nil)
			a := planArguments{plan(withScales(stepFor(l), x, y), withRelu(stepFor(l)), stepFor(scale)), model(l, scale, l), model(l, scale), tensor(1, 2, x, y), []float32{y, x}, 1}
			for name, call := range planCalls() {
				checkCall(t, name, func() (several, bool) { return call(a) })
			}
		}
	}
}

func TestEachFunctionOfPlansReturnsTheSameForLongLists(t *testing.T) {
	const length = 100000
	relu := layer(impl.LayerRelu, 1, 1, nil, nil)
	long := dense(1, 1, filled(length, 1), filled(length, 1))
	many, steps := model(slices.Repeat([]impl.Layer{relu}, length)...), plan(slices.Repeat([]impl.PlanStep{stepFor(relu)}, length)...)
	for name, call := range planCalls() {
		for i, a := range []planArguments{
			{steps, many, many, tensor(1, 1, 1), []float32{1}, 1},
			{steps, many, model(relu), tensor(1, 1, 1), []float32{1}, length - 1},
			{plan(stepFor(long)), model(long), model(long), tensor(1, 1, long.Weights...), long.Weights, 1},
			{plan(withScales(stepFor(dense(1, 1, []float32{1}, []float32{1})), long.Weights...)), model(relu), many, tensor(1, 1, 1), []float32{1}, 1},
			{plan(), model(relu), model(long), tensor(1, length, long.Weights...), long.Weights, 1},
		} {
			checkCall(t, fmt.Sprintf("%s %d of long lists", name, i), func() (several, bool) { return call(a) })
		}
	}
}
