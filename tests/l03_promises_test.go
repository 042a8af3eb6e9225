package tests

import (
	"math"
	"slices"
	"testing"

	"loop.example/g01157/impl"
)

func TestExamplesOfChapter3(t *testing.T) {
	made, ok := impl.RunLayer(layer(impl.LayerDense, 2, 1, []float32{1, 2}, []float32{0.5}), []float32{3, 4})
	wantNumbersOk(t, "a dense layer", made, ok, []float32{11.5})
	sums, ok := impl.ConvolveRow([]float32{1, 2, 4}, []float32{1, -1}, 1)
	wantNumbersOk(t, "the kernel 1, -1", sums, ok, []float32{-1, -2})
	for _, x := range edges() {
		if !isNan(x) && !math.IsInf(float64(x), 0) {
			shares, ok := impl.RunLayer(layer(impl.LayerSoftmax, 2, 2, nil, nil), []float32{x, x})
			wantNumbersOk(t, "softmax of two equal numbers", shares, ok, []float32{0.5, 0.5})
		}
	}
}

func TestModelsMakeEachRowOfItsRowAlone(t *testing.T) {
	c := chance(90)
	for name, m := range c.models() {
		in := m.Layers[0].In
		for _, x := range []impl.Tensor{c.smallTensor(16, in), c.anyTensor(7, in), c.smallTensor(1, in)} {
			whole, ok := impl.RunModel(m, x)
			wantValue(t, name+": success", ok, true)
			for row := range x.Rows {
				want := rowTensor(whole, row)
				alone, ok := impl.RunModel(m, rowTensor(x, row))
				wantTensorOk(t, name+": RunModel of a row alone", alone, ok, want)
				stages, ok := impl.StagesOf(m, rowTensor(x, row).Data)
				wantNumbersOk(t, name+": StagesOf a row", stages[len(stages)-1], ok, want.Data)
				numbers := rowTensor(x, row).Data
				for i, l := range m.Layers {
					numbers, ok = impl.RunLayer(l, numbers)
					wantNumbersOk(t, name+": RunLayer one after another", numbers, ok, stages[i])
				}
			}
		}
	}
}

func TestAnotherRowDoesNotChangeARow(t *testing.T) {
	c := chance(91)
	for name, m := range c.models() {
		x := c.smallTensor(4, m.Layers[0].In)
		whole, _ := impl.RunModel(m, x)
		for row := range x.Rows {
			for _, number := range []float32{nan, infinity, -infinity, greatest, minusZero} {
				got, ok := impl.RunModel(m, withRow(x, row, number))
				wantValue(t, name+": success", ok, true)
				for other := range x.Rows {
					if other != row {
						wantTensor(t, name+": another row", rowTensor(got, other), rowTensor(whole, other))
					}
				}
			}
		}
	}
}

func TestRowsAttendAlone(t *testing.T) {
	c := chance(92)
	queries, keys, values := c.smallTensor(8, 3), c.smallTensor(8, 3), c.smallTensor(8, 5)
	for _, causal := range []bool{false, true} {
		whole, _ := impl.AttendRows(queries, keys, values, causal)
		for row := range queries.Rows {
			got, ok := impl.AttendRows(withRow(queries, row, nan), keys, values, causal)
			wantTensorOk(t, "AttendRows with another query", got, ok, withRow(whole, row, nan))
		}
	}
	whole, _ := impl.AttendRows(queries, keys, values, true)
	for row := range queries.Rows {
		first, _ := impl.SliceRows(whole, 0, row+1)
		parts := make([]impl.Tensor, 3)
		for i, t := range []impl.Tensor{queries, keys, values} {
			parts[i], _ = impl.SliceRows(t, 0, row+1)
		}
		got, ok := impl.AttendRows(parts[0], parts[1], parts[2], true)
		wantTensorOk(t, "AttendRows of the first rows alone", got, ok, first)
	}
}

// wantShares requires numbers from 0 to 1 whose sum is 1, but for what their
// rounding makes of it.
func wantShares(t *testing.T, what string, shares []float32) {
	t.Helper()
	sum := 0.0
	for _, share := range shares {
		if !(share >= 0 && share <= 1) {
			t.Errorf("%s: got a share of %g", what, share)
		}
		sum += float64(share)
	}
	if math.Abs(sum-1) > float64(len(shares))/(1<<23) {
		t.Errorf("%s: got %v, whose sum is %g", what, shares, sum)
	}
}

func TestSharesAddUp(t *testing.T) {
	c := chance(93)
	for size := int64(1); size <= 8; size++ {
		softmax := layer(impl.LayerSoftmax, size, size, nil, nil)
		for range 200 {
			x := c.smallList(int(size))
			for _, factor := range []float32{1, 0.001, 40, 1e30} {
				scaled := make([]float32, size)
				for i := range x {
					scaled[i] = x[i] * factor
				}
				shares, ok := impl.RunLayer(softmax, scaled)
				wantValue(t, "softmax: success", ok, true)
				wantShares(t, "softmax", shares)
				for i := range x {
					for k := range x {
						wantValue(t, "a greater number with a lesser share", scaled[i] > scaled[k] && shares[i] < shares[k], false)
						wantValue(t, "equal numbers with other shares", scaled[i] == scaled[k] && shares[i] != shares[k], false)
					}
				}
			}
		}
	}
}

func TestAttendedSharesAddUp(t *testing.T) {
	c := chance(94)
	for rows := int64(1); rows <= 8; rows++ {
		diagonal := tensor(rows, rows, make([]float32, rows*rows)...)
		for i := range rows {
			diagonal = withNumber(diagonal, i, i, 1)
		}
		queries, keys := c.smallTensor(rows, 4), c.smallTensor(rows, 4)
		for _, causal := range []bool{false, true} {
			shares, ok := impl.AttendRows(queries, keys, diagonal, causal)
			wantValue(t, "AttendRows: success", ok, true)
			for row := range rows {
				list := rowTensor(shares, row).Data
				wantShares(t, "AttendRows", list)
				for j := row + 1; causal && j < rows; j++ {
					wantNumber(t, "a later share", list[j], 0)
				}
			}
		}
	}
}

// modelCalls has the functions of chapter 3 with a model or a layer.
func modelCalls() map[string]func(m impl.Model, x impl.Tensor, list []float32) (any, bool) {
	return map[string]func(m impl.Model, x impl.Tensor, list []float32) (any, bool){
		"ValidLayer": func(m impl.Model, x impl.Tensor, list []float32) (any, bool) {
			valid := true
			for _, l := range m.Layers {
				valid = impl.ValidLayer(l) && valid
			}
			return valid, true
		},
		"ValidModel": func(m impl.Model, x impl.Tensor, list []float32) (any, bool) { return impl.ValidModel(m), true },
		"RunLayer": func(m impl.Model, x impl.Tensor, list []float32) (any, bool) {
			if len(m.Layers) == 0 {
				return nil, true
			}
			return impl.RunLayer(m.Layers[0], x.Data)
		},
		"RunModel":    func(m impl.Model, x impl.Tensor, list []float32) (any, bool) { return impl.RunModel(m, x) },
		"StagesOf":    func(m impl.Model, x impl.Tensor, list []float32) (any, bool) { return impl.StagesOf(m, x.Data) },
		"CountParams": func(m impl.Model, x impl.Tensor, list []float32) (any, bool) { return impl.CountParams(m) },
		"ParamsOf":    func(m impl.Model, x impl.Tensor, list []float32) (any, bool) { return impl.ParamsOf(m) },
		"WithParams":  func(m impl.Model, x impl.Tensor, list []float32) (any, bool) { return impl.WithParams(m, list) },
		"RoundModel":  func(m impl.Model, x impl.Tensor, list []float32) (any, bool) { return impl.RoundModel(m) },
	}
}

func TestModelsAreNotChanged(t *testing.T) {
	c := chance(95)
	models := c.models()
	for name, broken := range brokenModels() {
		models[name] = broken
	}
	for kind, m := range models {
		m = roomyModel(m)
		list := roomyList(c.smallList(len(paramsByRule(m))))
		for _, columns := range []int64{1, 2, 3, 4, 6, 8} {
			for _, rows := range []int64{1, 3} {
				x := roomy(c.anyTensor(rows, columns))
				beforeModel, beforeX, beforeList := modelText(m), rawBits(x.Data), rawBits(list)
				for name, call := range modelCalls() {
					checkCall(t, name+" of "+kind, func() (any, bool) { return call(m, x, list) })
				}
				if modelText(m) != beforeModel || !slices.Equal(rawBits(x.Data), beforeX) || !slices.Equal(rawBits(list), beforeList) {
					t.Errorf("an argument is changed by a function of %s", kind)
				}
			}
		}
	}
}

func TestSlicesOfAResultAreApart(t *testing.T) {
	c := chance(96)
	for name, m := range c.models() {
		stages, _ := impl.StagesOf(m, c.smallList(int(m.Layers[0].In)))
		wantApart(t, "StagesOf "+name, stages)
		list := paramsByRule(m)
		changed, _ := impl.WithParams(m, list)
		rounded, _ := impl.RoundModel(m)
		for _, made := range []impl.Model{changed, rounded} {
			var parts [][]float32
			for _, l := range made.Layers {
				parts = append(parts, l.Weights, l.Bias)
			}
			wantApart(t, "the parameters of "+name, append(parts, list, m.Layers[0].Weights, m.Layers[0].Bias))
		}
	}
}

type imageCall func(image, other impl.Tensor, n int64) (any, bool)

// imageCalls has the other forms of chapter 3.
func imageCalls() map[string]imageCall {
	return map[string]imageCall{
		"ConvolveRow":        func(a, b impl.Tensor, n int64) (any, bool) { return impl.ConvolveRow(a.Data, b.Data, n) },
		"ConvolveImage":      func(a, b impl.Tensor, n int64) (any, bool) { return impl.ConvolveImage(a, b) },
		"PoolMost":           func(a, b impl.Tensor, n int64) (any, bool) { return impl.PoolMost(a, n) },
		"PoolMean":           func(a, b impl.Tensor, n int64) (any, bool) { return impl.PoolMean(a, n) },
		"AttendRows":         func(a, b impl.Tensor, n int64) (any, bool) { return impl.AttendRows(a, b, b, false) },
		"AttendRows, causal": func(a, b impl.Tensor, n int64) (any, bool) { return impl.AttendRows(a, a, b, true) },
	}
}

func TestImagesAreNotChanged(t *testing.T) {
	c := chance(97)
	for name, call := range imageCalls() {
		for _, shape := range append(shapes(), [2]int64{1, 8}, [2]int64{8, 8}) {
			for _, other := range [][2]int64{shape, {1, 1}, {2, 2}, {1, 3}} {
				a, b := roomy(c.anyTensor(shape[0], shape[1])), roomy(c.anyTensor(other[0], other[1]))
				beforeA, beforeB := rawBits(a.Data), rawBits(b.Data)
				for n := int64(1); n <= 8; n++ {
					checkCall(t, name, func() (any, bool) { return call(a, b, n) })
					checkCall(t, name+" of one twice", func() (any, bool) { return call(a, a, n) })
				}
				if !slices.Equal(rawBits(a.Data), beforeA) || !slices.Equal(rawBits(b.Data), beforeB) {
					t.Errorf("%s changes its arguments", name)
				}
			}
		}
	}
}

func TestEachFunctionOfLayersReturnsTheSameForAllIntegers(t *testing.T) {
	numbers := filled(4, 1)
	square := tensor(2, 2, numbers...)
	integers := append(anyIntegers(), 3, 4, 5, 6, 7, 8, 9, -2)
	for _, n := range integers {
		for name, call := range imageCalls() {
			checkCall(t, name, func() (any, bool) { return call(square, square, n) })
			checkCall(t, name, func() (any, bool) { return call(tensor(n, 2, numbers...), square, 2) })
			checkCall(t, name, func() (any, bool) { return call(square, tensor(2, n, numbers...), 2) })
			checkCall(t, name, func() (any, bool) { return call(tensor(n, n, numbers...), tensor(n, n, numbers...), n) })
		}
		for _, in := range integers {
			for _, out := range []int64{in, 1, n} {
				for name, call := range modelCalls() {
					m := model(layer(n, in, out, numbers, numbers[:2]))
					checkCall(t, name, func() (any, bool) { return call(m, square, numbers) })
				}
			}
		}
	}
}
