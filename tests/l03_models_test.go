package tests

import (
	"testing"

	"loop.example/g01157/impl"
)

func TestValidModels(t *testing.T) {
	c := chance(70)
	for name, m := range c.models() {
		wantValue(t, "ValidModel of "+name, impl.ValidModel(m), true)
	}
	for name, broken := range brokenModels() {
		wantValue(t, "ValidModel of "+name, impl.ValidModel(broken), false)
	}
	relu := layer(impl.LayerRelu, 1, 1, nil, nil)
	var layers []impl.Layer
	for count := 1; count <= 9; count++ {
		layers = append(layers, relu)
		wantValue(t, "ValidModel of layers", impl.ValidModel(model(layers...)), count <= 6)
	}
	for first := int64(1); first <= 8; first++ {
		for second := int64(1); second <= 8; second++ {
			m := model(c.smallLayer(impl.LayerDense, 3, first), c.smallLayer(impl.LayerDense, second, 2))
			wantValue(t, "ValidModel of two", impl.ValidModel(m), first == second)
		}
	}
}

// stagesByRule makes what the layers make, without impl.
func stagesByRule(m impl.Model, x []float32) (stages [][]float32) {
	for _, l := range m.Layers {
		x = layerByRule(l, x)
		stages = append(stages, x)
	}
	return stages
}

func TestStagesOf(t *testing.T) {
	c := chance(71)
	for name, m := range c.models() {
		in := m.Layers[0].In
		for _, x := range [][]float32{c.smallList(int(in)), c.anyTensor(1, in).Data, filled(int(in), 0)} {
			want := stagesByRule(m, x)
			got, ok := impl.StagesOf(m, x)
			wantValue(t, "StagesOf "+name+": success", ok, true)
			wantValue(t, "StagesOf "+name+": length", len(got), len(want))
			for i := range got {
				wantNumbersOk(t, "StagesOf "+name, got[i], ok, want[i])
			}
		}
		for length := range 18 {
			got, ok := impl.StagesOf(m, filled(length, 1))
			if int64(length) != in {
				wantFailed(t, "StagesOf "+name+" with another length", got, ok)
			} else {
				wantValue(t, "StagesOf "+name+": success", ok, true)
			}
		}
	}
}

func TestRunModel(t *testing.T) {
	c := chance(72)
	for name, m := range c.models() {
		in, out := m.Layers[0].In, m.Layers[len(m.Layers)-1].Out
		for _, rows := range []int64{1, 2, 3, 8, 9, 16} {
			for _, x := range []impl.Tensor{c.smallTensor(rows, in), c.anyTensor(rows, in)} {
				want := impl.Tensor{Rows: rows, Columns: out}
				for row := range rows {
					stages := stagesByRule(m, rowTensor(x, row).Data)
					want.Data = append(want.Data, stages[len(stages)-1]...)
				}
				got, ok := impl.RunModel(m, x)
				wantTensorOk(t, "RunModel of "+name, got, ok, want)
			}
		}
		for columns := int64(1); columns <= 16; columns++ {
			got, ok := impl.RunModel(m, c.smallTensor(2, columns))
			if columns != in {
				wantFailed(t, "RunModel of "+name+" with other columns", got, ok)
			} else {
				wantValue(t, "RunModel of "+name+": success", ok, true)
			}
		}
		for kind, broken := range brokenTensors() {
			got, ok := impl.RunModel(m, broken)
			wantFailed(t, "RunModel of "+name+" with "+kind, got, ok)
		}
	}
}

func TestBrokenModelsMakeNothing(t *testing.T) {
	for name, broken := range brokenModels() {
		for columns := int64(1); columns <= 10; columns++ {
			numbers := filled(int(columns), 1)
			tensor, ok := impl.RunModel(broken, tensor(1, columns, numbers...))
			wantFailed(t, "RunModel of "+name, tensor, ok)
			stages, ok := impl.StagesOf(broken, numbers)
			wantFailed(t, "StagesOf "+name, stages, ok)
		}
		for length := range 150 {
			changed, ok := impl.WithParams(broken, filled(length, 1))
			wantFailed(t, "WithParams of "+name, changed, ok)
		}
		stages, ok := impl.StagesOf(broken, nil)
		wantFailed(t, "StagesOf "+name, stages, ok)
		count, ok := impl.CountParams(broken)
		wantFailed(t, "CountParams of "+name, count, ok)
		list, ok := impl.ParamsOf(broken)
		wantFailed(t, "ParamsOf "+name, list, ok)
		rounded, ok := impl.RoundModel(broken)
		wantFailed(t, "RoundModel of "+name, rounded, ok)
	}
}

func paramsByRule(m impl.Model) (list []float32) {
	for _, l := range m.Layers {
		list = append(list, l.Weights...)
		list = append(list, l.Bias...)
	}
	return list
}

// withParamsByRule returns a copy of m with other parameters.
func withParamsByRule(m impl.Model, list []float32) impl.Model {
	next := 0
	var layers []impl.Layer
	for _, l := range m.Layers {
		l = roomyLayer(l)
		for _, part := range [][]float32{l.Weights, l.Bias} {
			for i := range part {
				part[i] = list[next]
				next++
			}
		}
		layers = append(layers, l)
	}
	return model(layers...)
}

func wantModelOk(t *testing.T, what string, got impl.Model, ok bool, want impl.Model) {
	t.Helper()
	wantValue(t, what+": success", ok, true)
	wantValue(t, what, textOfResult(got), textOfResult(want))
}

func TestParams(t *testing.T) {
	m := model(layer(impl.LayerDense, 2, 1, []float32{1, 2}, []float32{3}), layer(impl.LayerRelu, 1, 1, nil, nil), layer(impl.LayerNorm, 1, 1, []float32{4}, []float32{5}))
	list, ok := impl.ParamsOf(m)
	wantNumbersOk(t, "ParamsOf", list, ok, []float32{1, 2, 3, 4, 5})
	changed, ok := impl.WithParams(m, []float32{6, 7, 8, 9, minusZero})
	wantModelOk(t, "WithParams", changed, ok, model(
		layer(impl.LayerDense, 2, 1, []float32{6, 7}, []float32{8}), layer(impl.LayerRelu, 1, 1, nil, nil), layer(impl.LayerNorm, 1, 1, []float32{9}, []float32{minusZero})))
	c := chance(73)
	for name, m := range c.models() {
		want := paramsByRule(m)
		count, ok := impl.CountParams(m)
		wantOk(t, "CountParams of "+name, count, ok, int64(len(want)))
		list, ok := impl.ParamsOf(m)
		wantNumbersOk(t, "ParamsOf "+name, list, ok, want)
		back, ok := impl.WithParams(m, list)
		wantModelOk(t, "WithParams of "+name+" with its own", back, ok, m)
		for _, others := range [][]float32{c.smallList(len(want)), filled(len(want), nan), filled(len(want), infinity), filled(len(want), minusZero)} {
			got, ok := impl.WithParams(m, others)
			wantModelOk(t, "WithParams of "+name, got, ok, withParamsByRule(m, others))
		}
	}
	count, ok := impl.CountParams(c.models()["the most"])
	wantOk(t, "CountParams of the most", count, ok, 432)
}

func TestWithParamsOfOtherLengths(t *testing.T) {
	c := chance(74)
	for name, m := range c.models() {
		count := len(paramsByRule(m))
		for length := range 440 {
			got, ok := impl.WithParams(m, filled(length, 1))
			if length == count {
				wantValue(t, "WithParams of "+name+": success", ok, true)
			} else {
				wantFailed(t, "WithParams of "+name+" with another length", got, ok)
			}
		}
		got, ok := impl.WithParams(m, nil)
		wantValue(t, "WithParams of "+name+" without any: success", ok, count == 0)
		wantValue(t, "WithParams of "+name+" without any", len(got.Layers) == 0, count > 0)
	}
}

func TestRoundModel(t *testing.T) {
	c := chance(75)
	for name, m := range c.models() {
		rounded := paramsByRule(m)
		for i, x := range rounded {
			rounded[i] = impl.BfloatOf(x)
		}
		got, ok := impl.RoundModel(m)
		wantModelOk(t, "RoundModel of "+name, got, ok, withParamsByRule(m, rounded))
		twice, ok := impl.RoundModel(got)
		wantModelOk(t, "RoundModel twice of "+name, twice, ok, got)
	}
	m := model(layer(impl.LayerScale, 5, 5, []float32{1.00390625, -1.01171875, greatest, nan, minusZero}, nil))
	got, ok := impl.RoundModel(m)
	wantModelOk(t, "RoundModel", got, ok, model(layer(impl.LayerScale, 5, 5, []float32{1, -1.015625, infinity, nan, minusZero}, nil)))
}
