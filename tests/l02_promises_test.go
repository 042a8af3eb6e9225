package tests

import (
	"slices"
	"testing"

	"loop.example/g01157/impl"
)

func TestExamplesOfChapter2(t *testing.T) {
	product, ok := impl.MatMul(tensor(2, 2, 1, 2, 3, 4), tensor(2, 2, 0.5, 0, 0, 0.25))
	wantTensorOk(t, "the product", product, ok, tensor(2, 2, 0.5, 0.5, 1.5, 1))
	columns, ok := impl.GreatestColumns(tensor(2, 3, 1, 3, 3, 2, -1, 0))
	wantListOk(t, "the greatest columns", columns, ok, []int64{1, 0})
}

// products has each way to multiply tensors.
func products() map[string]func(a, b impl.Tensor) (impl.Tensor, bool) {
	functions := map[string]func(a, b impl.Tensor) (impl.Tensor, bool){"MatMul": impl.MatMul, "MatMulWide": impl.MatMulWide}
	for _, block := range []int64{1, 2, 3, 5, 16} {
		functions["MatMulBlocks of "+impl.Decimal(block)] = func(a, b impl.Tensor) (impl.Tensor, bool) {
			return impl.MatMulBlocks(a, b, block)
		}
	}
	return functions
}

func TestProductsHaveEachRowFromItsRowAlone(t *testing.T) {
	c := chance(50)
	for name, product := range products() {
		for _, shape := range shapes() {
			for _, a := range []impl.Tensor{c.smallTensor(shape[0], shape[1]), c.anyTensor(shape[0], shape[1])} {
				b := c.smallTensor(shape[1], 3)
				whole, ok := product(a, b)
				wantValue(t, name+": success", ok, true)
				for row := range a.Rows {
					alone, ok := product(rowTensor(a, row), b)
					wantTensorOk(t, name+" of a row alone", alone, ok, rowTensor(whole, row))
				}
			}
		}
	}
}

func TestAnotherRowDoesNotChangeAProduct(t *testing.T) {
	c := chance(51)
	a, b := c.smallTensor(3, 5), c.smallTensor(5, 4)
	for name, product := range products() {
		whole, _ := product(a, b)
		for row := range a.Rows {
			for column := range a.Columns {
				got, ok := product(withNumber(a, row, column, nan), b)
				wantTensorOk(t, name+" with a not-a-number", got, ok, withRow(whole, row, nan))
				got, ok = product(withNumber(a, row, column, infinity), tensor(5, 4, filled(20, 0)...))
				zero := tensor(3, 4, filled(12, 0)...)
				wantTensorOk(t, name+" with an infinity and zeros", got, ok, withRow(zero, row, nan))
			}
		}
	}
}

func withRow(t impl.Tensor, row int64, number float32) impl.Tensor {
	for column := range t.Columns {
		t = withNumber(t, row, column, number)
	}
	return t
}

func TestANotANumberFillsItsColumnAlone(t *testing.T) {
	c := chance(52)
	a, b := withRow(c.smallTensor(3, 4), 1, 0), c.smallTensor(4, 5)
	for name, product := range products() {
		whole, _ := product(a, b)
		for row := range b.Rows {
			for column := range b.Columns {
				want := whole
				for i := range a.Rows {
					want = withNumber(want, i, column, nan)
				}
				got, ok := product(a, withNumber(b, row, column, of(0xff800001)))
				wantTensorOk(t, name+" with a not-a-number on the right", got, ok, want)
			}
		}
	}
}

func TestProductsOfSmallIntegersAreTheSame(t *testing.T) {
	c := chance(53)
	for _, shape := range shapes() {
		for _, columns := range []int64{1, 2, 7, 16} {
			a, b := c.wholeTensor(shape[0], shape[1]), c.wholeTensor(shape[1], columns)
			want := impl.Tensor{Rows: a.Rows, Columns: columns}
			for i := range a.Rows {
				for k := range columns {
					var sum int64
					for j := range a.Columns {
						sum += int64(numberAt(a, i, j)) * int64(numberAt(b, j, k))
					}
					want.Data = append(want.Data, float32(sum))
				}
			}
			for name, product := range products() {
				got, ok := product(a, b)
				wantTensorOk(t, name+" of integers", got, ok, want)
			}
			for block := int64(1); block <= impl.MaxSide; block++ {
				got, ok := impl.MatMulBlocks(a, b, block)
				wantTensorOk(t, "MatMulBlocks of integers", got, ok, want)
			}
		}
	}
}

type oneTensorCall func(t impl.Tensor, row []float32) (any, bool)

// oneTensorCalls has the functions of chapter 2 with one tensor that fail for
// one that is not valid.
func oneTensorCalls() map[string]oneTensorCall {
	return map[string]oneTensorCall{
		"RowOf":           func(t impl.Tensor, row []float32) (any, bool) { return impl.RowOf(t, 0) },
		"SliceRows":       func(t impl.Tensor, row []float32) (any, bool) { return impl.SliceRows(t, 0, 1) },
		"SliceRows: all":  func(t impl.Tensor, row []float32) (any, bool) { return impl.SliceRows(t, 0, t.Rows) },
		"StackRows":       func(t impl.Tensor, row []float32) (any, bool) { return impl.StackRows([]impl.Tensor{t}) },
		"TransposeTensor": func(t impl.Tensor, row []float32) (any, bool) { return impl.TransposeTensor(t) },
		"AddRow":          func(t impl.Tensor, row []float32) (any, bool) { return impl.AddRow(t, row) },
		"MulRow":          func(t impl.Tensor, row []float32) (any, bool) { return impl.MulRow(t, row) },
		"ScaleTensor":     func(t impl.Tensor, row []float32) (any, bool) { return impl.ScaleTensor(t, 1) },
		"ReluTensor":      func(t impl.Tensor, row []float32) (any, bool) { return impl.ReluTensor(t) },
		"SumRows":         func(t impl.Tensor, row []float32) (any, bool) { return impl.SumRows(t) },
		"SumAll":          func(t impl.Tensor, row []float32) (any, bool) { return impl.SumAll(t) },
		"GreatestColumns": func(t impl.Tensor, row []float32) (any, bool) { return impl.GreatestColumns(t) },
	}
}

type twoTensorsCall func(a, b impl.Tensor) (any, bool)

// twoTensorsCalls has those with two tensors.
func twoTensorsCalls() map[string]twoTensorsCall {
	return map[string]twoTensorsCall{
		"StackRows":    func(a, b impl.Tensor) (any, bool) { return impl.StackRows([]impl.Tensor{a, b}) },
		"AddTensors":   func(a, b impl.Tensor) (any, bool) { return impl.AddTensors(a, b) },
		"MulTensors":   func(a, b impl.Tensor) (any, bool) { return impl.MulTensors(a, b) },
		"MatMul":       func(a, b impl.Tensor) (any, bool) { return impl.MatMul(a, b) },
		"MatMulBlocks": func(a, b impl.Tensor) (any, bool) { return impl.MatMulBlocks(a, b, 2) },
		"MatMulWide":   func(a, b impl.Tensor) (any, bool) { return impl.MatMulWide(a, b) },
		"GreatestGap":  func(a, b impl.Tensor) (any, bool) { return impl.GreatestGap(a, b) },
	}
}

// matching returns valid tensors that would fit to a broken one if this had
// sides within the limits.
func matching(broken impl.Tensor) []impl.Tensor {
	rows, columns := max(1, min(broken.Rows, 16)), max(1, min(broken.Columns, 16))
	numbers := filled(int(rows*columns), 1)
	return []impl.Tensor{tensor(rows, columns, numbers...), tensor(columns, rows, numbers...)}
}

func TestFunctionsRefuseBrokenTensors(t *testing.T) {
	for kind, broken := range brokenTensors() {
		for name, call := range oneTensorCalls() {
			for length := range 18 {
				got, ok := call(broken, filled(length, 1))
				wantFailed(t, name+" of "+kind, got, ok)
			}
			checkCall(t, name+" of "+kind, func() (any, bool) { return call(broken, nil) })
		}
		for name, call := range twoTensorsCalls() {
			got, ok := call(broken, broken)
			wantFailed(t, name+" twice of "+kind, got, ok)
			for _, valid := range matching(broken) {
				got, ok = call(valid, broken)
				wantFailed(t, name+" behind a valid one of "+kind, got, ok)
				got, ok = call(broken, valid)
				wantFailed(t, name+" before a valid one of "+kind, got, ok)
			}
		}
	}
}

func TestOneTensorIsNotChanged(t *testing.T) {
	c := chance(54)
	for name, call := range oneTensorCalls() {
		for _, shape := range shapes() {
			a, row := roomy(c.anyTensor(shape[0], shape[1])), roomy(c.anyTensor(1, shape[1])).Data
			beforeA, beforeRow := rawBits(a.Data), rawBits(row)
			checkCall(t, name, func() (any, bool) { return call(a, row) })
			if !slices.Equal(rawBits(a.Data), beforeA) || !slices.Equal(rawBits(row), beforeRow) {
				t.Errorf("%s changes its arguments", name)
			}
		}
	}
}

func TestTwoTensorsAreNotChanged(t *testing.T) {
	c := chance(55)
	for name, call := range twoTensorsCalls() {
		for _, shape := range append(shapes(), [2]int64{4, 4}, [2]int64{8, 8}) {
			a, b := roomy(c.anyTensor(shape[0], shape[1])), roomy(c.anyTensor(shape[0], shape[1]))
			turned := roomy(c.anyTensor(shape[1], shape[0]))
			beforeA, beforeB, beforeTurned := rawBits(a.Data), rawBits(b.Data), rawBits(turned.Data)
			checkCall(t, name, func() (any, bool) { return call(a, b) })
			checkCall(t, name+" turned", func() (any, bool) { return call(a, turned) })
			checkCall(t, name+" of the same tensor", func() (any, bool) { return call(a, a) })
			if !slices.Equal(rawBits(a.Data), beforeA) || !slices.Equal(rawBits(b.Data), beforeB) || !slices.Equal(rawBits(turned.Data), beforeTurned) {
				t.Errorf("%s changes its arguments", name)
			}
		}
	}
}

func TestAListOfTensorsIsNotChanged(t *testing.T) {
	c := chance(56)
	for count := range impl.MaxStack + 1 {
		list := make([]impl.Tensor, 2*impl.MaxStack+2)
		for i := range list {
			list[i] = roomy(c.anyTensor(1, 3))
		}
		var before []string
		for _, part := range list {
			before = append(before, textOfResult(part))
		}
		raw := rawBits(list[0].Data)
		checkCall(t, "StackRows", func() (impl.Tensor, bool) { return impl.StackRows(list[:count]) })
		for i, part := range list {
			wantValue(t, "StackRows: argument", textOfResult(part), before[i])
		}
		wantValue(t, "StackRows: unused capacity", slices.Equal(rawBits(list[0].Data), raw), true)
	}
}

func TestEachFunctionOfTensorsReturnsTheSameForAllIntegers(t *testing.T) {
	a, b := tensor(3, 2, 1, 2, 3, 4, 5, 6), tensor(2, 1, 1, nan)
	integers := append(anyIntegers(), 3, 4, 15, 16, 17, -2)
	for _, n := range integers {
		checkCall(t, "RowOf", func() ([]float32, bool) { return impl.RowOf(a, n) })
		checkCall(t, "MatMulBlocks", func() (impl.Tensor, bool) { return impl.MatMulBlocks(a, b, n) })
		for _, m := range integers {
			checkCall(t, "FilledTensor", func() (impl.Tensor, bool) { return impl.FilledTensor(n, m, minusZero) })
			checkCall(t, "SliceRows", func() (impl.Tensor, bool) { return impl.SliceRows(a, n, m) })
			odd := impl.Tensor{Rows: n, Columns: m, Data: a.Data}
			checkCall(t, "ValidTensor", func() (bool, bool) { return alone(impl.ValidTensor(odd)) })
			checkCall(t, "SameTensors", func() (bool, bool) { return alone(impl.SameTensors(odd, a)) })
			for name, call := range oneTensorCalls() {
				checkCall(t, name, func() (any, bool) { return call(odd, []float32{1, 2}) })
			}
			for name, call := range twoTensorsCalls() {
				checkCall(t, name, func() (any, bool) { return call(odd, a) })
				checkCall(t, name, func() (any, bool) { return call(a, odd) })
			}
		}
	}
}
