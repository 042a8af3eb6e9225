package tests

import (
	"math"
	"slices"
	"testing"

	"loop.example/g01157/impl"
)

func TestExamplesOfChapter4(t *testing.T) {
	m := model(layer(impl.LayerDense, 1, 1, []float32{2}, []float32{1}))
	loss, ok := impl.ModelLoss(m, tensor(1, 1, 3), tensor(1, 1, 5))
	wantNumberOk(t, "the loss of the example", loss, ok, 4)
	gradients, loss, ok := impl.ModelGradients(m, tensor(1, 1, 3), tensor(1, 1, 5))
	wantNumbersOk(t, "the gradients of the example", gradients, ok, []float32{12, 4})
	wantNumber(t, "the loss beside the gradients", loss, 4)
}

// tapeCalls has the functions of chapter 4 with a tape alone.
func tapeCalls() map[string]func(tape []impl.Op) (any, bool) {
	return map[string]func(tape []impl.Op) (any, bool){
		"ValidTape": func(tape []impl.Op) (any, bool) { return impl.ValidTape(tape), true },
		"ShapesOf":  func(tape []impl.Op) (any, bool) { return impl.ShapesOf(tape) },
		"RunTape":   func(tape []impl.Op) (any, bool) { return impl.RunTape(tape) },
		"Gradients": func(tape []impl.Op) (any, bool) { return impl.Gradients(tape) },
		"UsedOps":   func(tape []impl.Op) (any, bool) { return impl.UsedOps(tape) },
		"RunWide":   func(tape []impl.Op) (any, bool) { return impl.RunWide(tape) },
	}
}

type modelTapeCall func(m impl.Model, x, y impl.Tensor) (any, bool)

// modelTapeCalls has the functions of chapter 4 with a model.
func modelTapeCalls() map[string]modelTapeCall {
	return map[string]modelTapeCall{
		"ModelTape": func(m impl.Model, x, y impl.Tensor) (any, bool) {
			tape, weights, ok := impl.ModelTape(m, x, y)
			return several{tape, weights}, ok
		},
		"ModelLoss": func(m impl.Model, x, y impl.Tensor) (any, bool) { return impl.ModelLoss(m, x, y) },
		"ModelGradients": func(m impl.Model, x, y impl.Tensor) (any, bool) {
			list, loss, ok := impl.ModelGradients(m, x, y)
			return several{list, loss}, ok
		},
	}
}

// someTapes has valid tapes and others.
func (c *chance) someTapes() map[string][]impl.Op {
	list := brokenTapes()
	list["each kind"] = eachOpTape()
	list["inputs alone"] = tapeOf(inputOp(c.anyTensor(16, 16)), inputOp(c.anyTensor(1, 16)))
	list["one number"] = tapeOf(rowOp(nan))
	list["unused operations"] = tapeOf(rowOp(2), opOf(impl.OpSquare, 0), rowOp(3), opOf(impl.OpAdd, 2, 2))
	list["a double"] = tapeOf(inputOp(c.anyTensor(3, 2)), opOf(impl.OpAdd, 0, 0))
	for i := range 20 {
		name := impl.Decimal(int64(i))
		list["small "+name] = c.smallTape(1 + c.below(48))
		list["any "+name] = c.anyTape(1 + c.below(48))
	}
	for kind, op := range simpleOps() {
		list["a simple one "+impl.Decimal(kind)] = tapeOf(rowOp(of(0xffc00001)), rowOp(2), op)
	}
	return list
}

func TestTapesAreNotChanged(t *testing.T) {
	c := chance(140)
	for name, tape := range c.someTapes() {
		tape = roomyTape(tape)
		before := rawTape(tape)
		for function, call := range tapeCalls() {
			checkCall(t, function+" of "+name, func() (any, bool) { return call(tape) })
		}
		for op := int64(-1); op <= int64(len(tape)); op++ {
			value := roomy(tensor(1, 1, 5))
			if 0 <= op && op < int64(len(tape)) && impl.ValidTensor(tape[op].Value) {
				value = roomy(c.anyTensor(tape[op].Value.Rows, tape[op].Value.Columns))
			}
			raw := rawBits(value.Data)
			checkCall(t, "ReplaceInput of "+name, func() ([]impl.Op, bool) { return impl.ReplaceInput(tape, op, value) })
			wantValue(t, "ReplaceInput of "+name+" leaves its value", slices.Equal(rawBits(value.Data), raw), true)
			for _, step := range []float64{0.5, math.NaN(), math.Inf(1)} {
				checkCall(t, "WideSlope of "+name, func() (float64, bool) { return impl.WideSlope(tape, op, 0, step) })
			}
		}
		wantValue(t, "an argument behind the functions of "+name, rawTape(tape), before)
	}
}

func TestModelsWithTapesAreNotChanged(t *testing.T) {
	c := chance(141)
	models := c.tapedModels()
	for name, m := range c.models() {
		models["with other layers: "+name] = m
	}
	for name, m := range brokenModels() {
		models[name] = m
	}
	for name, m := range models {
		m = roomyModel(m)
		for _, sizes := range [][2]int64{{3, 2}, {2, 2}, {1, 1}, {8, 8}, {5, 5}, {1, 8}, {8, 1}} {
			x, y := roomy(c.anyTensor(3, sizes[0])), roomy(c.anyTensor(3, sizes[1]))
			beforeModel, beforeX, beforeY := modelText(m), rawBits(x.Data), rawBits(y.Data)
			for function, call := range modelTapeCalls() {
				checkCall(t, function+" of "+name, func() (any, bool) { return call(m, x, y) })
				checkCall(t, function+" of "+name+" with one tensor", func() (any, bool) { return call(m, x, x) })
			}
			if modelText(m) != beforeModel || !slices.Equal(rawBits(x.Data), beforeX) || !slices.Equal(rawBits(y.Data), beforeY) {
				t.Errorf("an argument is changed by a function of %s", name)
			}
		}
	}
}

func dataOfTape(tape []impl.Op) (parts [][]float32) {
	for _, op := range tape {
		parts = append(parts, op.Value.Data)
	}
	return parts
}

func dataOfTensors(tensors []impl.Tensor) (parts [][]float32) {
	for _, t := range tensors {
		parts = append(parts, t.Data)
	}
	return parts
}

func TestSlicesOfTapesAreApart(t *testing.T) {
	c := chance(142)
	for name, tape := range c.someTapes() {
		if !impl.ValidTape(tape) {
			continue
		}
		copied := roomyTape(tape)
		values, _ := impl.RunTape(copied)
		gradients, _ := impl.Gradients(copied)
		wantApart(t, "RunTape of "+name, append(dataOfTensors(values), dataOfTape(copied)...))
		copied = roomyTape(tape)
		wantApart(t, "Gradients of "+name, append(dataOfTensors(gradients), dataOfTape(copied)...))
		shapes, _ := impl.ShapesOf(tape)
		wantApart(t, "ShapesOf "+name, shapes)
		for op := range tape {
			copied, value := roomyTape(tape), roomy(tape[op].Value)
			replaced, ok := impl.ReplaceInput(copied, int64(op), value)
			wantValue(t, "ReplaceInput of "+name, ok, tape[op].Kind == impl.OpInput)
			parts := append(dataOfTape(replaced), dataOfTape(copied)...)
			wantApart(t, "ReplaceInput of "+name, append(parts, value.Data))
		}
	}
}

func TestSlicesOfTapesOfModelsAreApart(t *testing.T) {
	c := chance(143)
	for name, m := range c.tapedModels() {
		x := c.smallTensor(2, m.Layers[0].In)
		y := c.smallTensor(2, m.Layers[len(m.Layers)-1].Out)
		tape, _, ok := impl.ModelTape(m, x, y)
		wantValue(t, "ModelTape of "+name, ok, true)
		parts := append(dataOfTape(tape), x.Data, y.Data)
		for _, l := range m.Layers {
			parts = append(parts, l.Weights, l.Bias)
		}
		wantApart(t, "ModelTape of "+name, parts)
	}
	square := c.smallTensor(2, 2)
	tape, _, _ := impl.ModelTape(model(c.smallLayer(impl.LayerRelu, 2, 2)), square, square)
	wantApart(t, "ModelTape with one tensor twice", append(dataOfTape(tape), square.Data))
}

func TestEachFunctionOfTapesReturnsTheSameForAllIntegers(t *testing.T) {
	integers := append(anyIntegers(), 3, 4, 5, 6, 7, 8, 9, 10, 11, 47, 48, -2)
	for _, n := range integers {
		for _, m := range integers {
			for _, op := range []impl.Op{
				{Kind: n, A: m}, {Kind: n, A: 0, B: m}, {Kind: n, A: m, B: m}, {Kind: 1, A: n, B: m}, {Kind: 6, A: n, B: m},
				inputOp(tensor(n, m, 1, 2)), {Kind: n, Value: tensor(m, 1, 1, 2)}, {Kind: n, Value: tensor(0, m)},
			} {
				for _, tape := range [][]impl.Op{tapeOf(op), tapeOf(rowOp(1), op), tapeOf(op, rowOp(1)), tapeOf(rowOp(1), rowOp(2), op, opOf(impl.OpSum, 2))} {
					for function, call := range tapeCalls() {
						checkCall(t, function, func() (any, bool) { return call(tape) })
					}
				}
			}
			tape := tapeOf(rowOp(1, 2), opOf(impl.OpSum, 0))
			checkCall(t, "ReplaceInput", func() ([]impl.Op, bool) { return impl.ReplaceInput(tape, n, tensor(1, m, 1, 2)) })
			checkCall(t, "ReplaceInput", func() ([]impl.Op, bool) { return impl.ReplaceInput(tape, n, tensor(m, 2, 1, 2)) })
			checkCall(t, "WideSlope", func() (float64, bool) { return impl.WideSlope(tape, n, m, 0.5) })
			x, square := tensor(n, m, 1, 2, 3, 4), tensor(2, 2, 1, 2, 3, 4)
			for function, call := range modelTapeCalls() {
				taped := model(layer(n, m, 2, square.Data, square.Data[:2]))
				checkCall(t, function, func() (any, bool) { return call(taped, square, square) })
				taped = model(layer(impl.LayerDense, 2, 2, square.Data, square.Data[:2]))
				checkCall(t, function, func() (any, bool) { return call(taped, x, square) })
				checkCall(t, function, func() (any, bool) { return call(taped, square, x) })
			}
		}
	}
}
