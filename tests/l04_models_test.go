package tests

import (
	"testing"

	"loop.example/g01157/impl"
)

// tapedModels has models all of whose layers a tape can have.
func (c *chance) tapedModels() map[string]impl.Model {
	dense := func(in, out int64) impl.Layer { return c.smallLayer(impl.LayerDense, in, out) }
	relu := func(size int64) impl.Layer { return c.smallLayer(impl.LayerRelu, size, size) }
	scale := func(size int64) impl.Layer { return c.smallLayer(impl.LayerScale, size, size) }
	list := map[string]impl.Model{
		"a net":               model(dense(3, 5), relu(5), dense(5, 2)),
		"the most dense":      model(dense(8, 8), dense(8, 8), dense(8, 8), dense(8, 8), dense(8, 8), dense(8, 8)),
		"the most Relu":       model(relu(3), relu(3), relu(3), relu(3), relu(3), relu(3)),
		"the most scale":      model(scale(8), scale(8), scale(8), scale(8), scale(8), scale(8)),
		"each kind":           model(scale(2), dense(2, 3), relu(3), scale(3), dense(3, 1), relu(1)),
		"each kind around":    model(relu(4), dense(4, 1), scale(1), relu(1), dense(1, 8), scale(8)),
		"without dense":       model(relu(5), scale(5), relu(5)),
		"any numbers":         model(c.anyLayer(impl.LayerDense, 3, 2), c.anyLayer(impl.LayerScale, 2, 2), c.anyLayer(impl.LayerRelu, 2, 2)),
		"any numbers, dense":  model(c.anyLayer(impl.LayerDense, 2, 2), c.anyLayer(impl.LayerDense, 2, 2)),
		"one number, dense":   model(dense(1, 1)),
		"much to one, dense":  model(dense(8, 1)),
		"one to much, dense":  model(dense(1, 8)),
		"one Relu":            model(relu(1)),
		"one scale":           model(scale(1)),
		"the greatest Relu":   model(relu(8)),
		"the greatest scale":  model(scale(8)),
		"the greatest, dense": model(dense(8, 8)),
	}
	return list
}

// modelTapeByRule adds the operations that the document lists.
func modelTapeByRule(m impl.Model, x, y impl.Tensor) (tape []impl.Op, weights []int64) {
	next := func() int64 { return int64(len(tape)) }
	tape = append(tape, inputOp(x), inputOp(y))
	p := int64(0)
	for _, l := range m.Layers {
		first := next()
		switch l.Kind {
		case impl.LayerDense:
			weights = append(weights, first, first+1)
			tape = append(tape, inputOp(tensor(l.Out, l.In, l.Weights...)), inputOp(tensor(1, l.Out, l.Bias...)),
				opOf(impl.OpTranspose, first), opOf(impl.OpMatMul, p, first+2), opOf(impl.OpAddRow, first+3, first+1))
		case impl.LayerRelu:
			tape = append(tape, opOf(impl.OpRelu, p))
		case impl.LayerScale:
			weights = append(weights, first)
			tape = append(tape, inputOp(tensor(1, l.In, l.Weights...)), opOf(impl.OpMulRow, p, first))
		}
		p = next() - 1
	}
	end := next()
	count := float32(y.Rows * y.Columns)
	tape = append(tape, scaleOp(1, -1), opOf(impl.OpAdd, p, end), opOf(impl.OpSquare, end+1), opOf(impl.OpSum, end+2), scaleOp(end+3, 1/count))
	return tape, weights
}

// lossByRule takes what the layers make, without a tape.
func lossByRule(m impl.Model, x, y impl.Tensor) float32 {
	var sum float32
	for row := range x.Rows {
		stages := stagesByRule(m, rowTensor(x, row).Data)
		for i, made := range stages[len(stages)-1] {
			gap := float32(made + -numberAt(y, row, int64(i)))
			square := float32(gap * gap)
			sum = float32(sum + square)
		}
	}
	return float32(sum * (1 / float32(y.Rows*y.Columns)))
}

func checkModel(t *testing.T, name string, m impl.Model, x, y impl.Tensor) {
	t.Helper()
	wantTape, wantWeights := modelTapeByRule(m, x, y)
	tape, weights, ok := impl.ModelTape(m, x, y)
	wantValue(t, "ModelTape of "+name, textOfResult(tape, ok), textOfResult(wantTape, true))
	wantListOk(t, "ModelTape of "+name+": weights", weights, ok, wantWeights)
	wantValue(t, "ValidTape of the tape of "+name, impl.ValidTape(tape), true)
	var want []float32
	gradients := gradientsByRule(wantTape)
	for _, index := range wantWeights {
		want = append(want, gradients[index].data...)
	}
	list, loss, ok := impl.ModelGradients(m, x, y)
	wantNumbersOk(t, "ModelGradients of "+name, list, ok, want)
	wantNumber(t, "ModelGradients of "+name+": loss", loss, lossByRule(m, x, y))
	loss, ok = impl.ModelLoss(m, x, y)
	wantNumberOk(t, "ModelLoss of "+name, loss, ok, lossByRule(m, x, y))
	count, _ := impl.CountParams(m)
	wantValue(t, "ModelGradients of "+name+": length", int64(len(list)), count)
	if len(weights) > 0 && len(gradients) == len(tape) {
		all, ok := impl.Gradients(tape)
		wantNumbersOk(t, "Gradients of the tape of "+name, all[weights[0]].Data, ok, list[:len(all[weights[0]].Data)])
	}
}

func TestTapesOfModels(t *testing.T) {
	c := chance(130)
	for name, m := range c.tapedModels() {
		in, out := m.Layers[0].In, m.Layers[len(m.Layers)-1].Out
		for _, rows := range []int64{1, 2, 3, 8, 15, 16} {
			checkModel(t, name, m, c.smallTensor(rows, in), c.smallTensor(rows, out))
			checkModel(t, name+" of any numbers", m, c.anyTensor(rows, in), c.anyTensor(rows, out))
			made, _ := impl.RunModel(m, c.smallTensor(rows, in))
			checkModel(t, name+" near its goals", m, c.smallTensor(rows, in), made)
		}
	}
}

func TestTheTapeOfANet(t *testing.T) {
	m := model(layer(impl.LayerDense, 2, 1, []float32{1, 2}, []float32{0.5}), layer(impl.LayerRelu, 1, 1, nil, nil), layer(impl.LayerScale, 1, 1, []float32{3}, nil))
	x, y := tensor(3, 2, 1, 1, 2, -3, minusZero, 0.5), tensor(3, 1, 10, 20, 4)
	tape, weights, ok := impl.ModelTape(m, x, y)
	want := tapeOf(
		inputOp(x), inputOp(y), inputOp(tensor(1, 2, 1, 2)), rowOp(0.5), opOf(impl.OpTranspose, 2), opOf(impl.OpMatMul, 0, 4), opOf(impl.OpAddRow, 5, 3),
		opOf(impl.OpRelu, 6), rowOp(3), opOf(impl.OpMulRow, 7, 8),
		scaleOp(1, -1), opOf(impl.OpAdd, 9, 10), opOf(impl.OpSquare, 11), opOf(impl.OpSum, 12), scaleOp(13, of(0x3eaaaaab)))
	wantValue(t, "ModelTape of a net", textOfResult(tape, ok), textOfResult(want, true))
	wantListOk(t, "the weights of a net", weights, ok, []int64{2, 3, 8})
	// The rows make 10.5, 0 and 4.5, and the sum of the squares is 400.5.
	loss, ok := impl.ModelLoss(m, x, y)
	wantNumberOk(t, "the loss of a net", loss, ok, 400.5*of(0x3eaaaaab))
	c := chance(131)
	most, weights, ok := impl.ModelTape(c.tapedModels()["the most dense"], c.smallTensor(16, 8), c.smallTensor(16, 8))
	wantValue(t, "the longest tape of a model", len(most), 37)
	wantListOk(t, "its weights", weights, ok, []int64{2, 3, 7, 8, 12, 13, 17, 18, 22, 23, 27, 28})
}

// wantNoTape requires the three functions of models to fail.
func wantNoTape(t *testing.T, what string, m impl.Model, x, y impl.Tensor) {
	t.Helper()
	for name, call := range modelTapeCalls() {
		got, ok := call(m, x, y)
		wantFailed(t, name+" of "+what, got, ok)
	}
}

func TestModelsWithOtherLayers(t *testing.T) {
	c := chance(132)
	for _, kind := range allKinds() {
		isTaped := kind == impl.LayerDense || kind == impl.LayerRelu || kind == impl.LayerScale
		for place := range 6 {
			layers := []impl.Layer{c.smallLayer(0, 2, 2), c.smallLayer(1, 2, 2), c.smallLayer(2, 2, 2), c.smallLayer(0, 2, 2), c.smallLayer(1, 2, 2), c.smallLayer(2, 2, 2)}
			layers[place] = c.smallLayer(kind, 2, 2)
			for count := place + 1; count <= 6; count++ {
				m := model(layers[:count]...)
				x, y := c.smallTensor(2, 2), c.smallTensor(2, 2)
				if isTaped {
					checkModel(t, "layers of each kind", m, x, y)
				} else {
					wantNoTape(t, "a model with another layer", m, x, y)
				}
			}
		}
	}
	for name, broken := range brokenModels() {
		for size := int64(1); size <= 3; size++ {
			wantNoTape(t, name, broken, c.smallTensor(2, size), c.smallTensor(2, size))
			wantNoTape(t, name, broken, c.smallTensor(1, 1), c.smallTensor(1, size))
		}
	}
}

func TestRowsAndColumnsThatDoNotFitAModel(t *testing.T) {
	c := chance(133)
	for name, m := range c.tapedModels() {
		in, out := m.Layers[0].In, m.Layers[len(m.Layers)-1].Out
		for columns := int64(1); columns <= 16; columns++ {
			if columns != in {
				wantNoTape(t, name+" with other columns of x", m, c.smallTensor(2, columns), c.smallTensor(2, out))
			}
			if columns != out {
				wantNoTape(t, name+" with other columns of y", m, c.smallTensor(2, in), c.smallTensor(2, columns))
			}
			for _, rows := range []int64{1, 2, 3, 16} {
				if columns != rows {
					wantNoTape(t, name+" with other rows", m, c.smallTensor(columns, in), c.smallTensor(rows, out))
				}
			}
		}
		for kind, broken := range brokenTensors() {
			wantNoTape(t, name+" with x: "+kind, m, broken, c.smallTensor(2, out))
			wantNoTape(t, name+" with y: "+kind, m, c.smallTensor(2, in), broken)
			wantNoTape(t, name+" with both: "+kind, m, broken, broken)
		}
		for _, rows := range []int64{0, -1, 17} {
			x, y := tensor(rows, in, filled(int(max(rows, 0)*in), 1)...), tensor(rows, out, filled(int(max(rows, 0)*out), 1)...)
			wantNoTape(t, name+" with a number of rows that is none", m, x, y)
		}
	}
}

func TestGradientsOfModelsAreSlopesWhereNumbersAreExact(t *testing.T) {
	c := chance(134)
	checked := 0
	for range 300 {
		m := c.wholeModel()
		in, out := m.Layers[0].In, m.Layers[len(m.Layers)-1].Out
		rows := int64(1 << c.below(3))
		x, y := c.wholeTensor(rows, in), c.wholeTensor(rows, out)
		tape, weights, _ := impl.ModelTape(m, x, y)
		list, _, _ := impl.ModelGradients(m, x, y)
		for _, op := range weights {
			for place := range tape[op].Value.Data {
				gradient := list[0]
				list = list[1:]
				if isExactAt(tape, int(op), place) {
					slope, ok := impl.WideSlope(tape, op, int64(place), 0.5)
					wantOk(t, "WideSlope of a weight, which is its gradient", slope, ok, float64(gradient))
					checked++
				}
			}
		}
	}
	wantValue(t, "many slopes", checked > 1000, true)
}

// wholeModel has weights that are small integers, and a number of outputs by
// which a division is exact.
func (c *chance) wholeModel() impl.Model {
	whole := func() float32 { return float32(c.below(5) - 2) }
	out := int64(1 << c.below(2))
	hidden := int64(1 + c.below(3))
	layers := []impl.Layer{layerOf(impl.LayerDense, int64(1+c.below(3)), hidden, whole)}
	for range c.below(4) {
		layers = append(layers, layerOf(int64(1+c.below(2)), hidden, hidden, whole))
	}
	return model(append(layers, layerOf(impl.LayerDense, hidden, out, whole))...)
}
