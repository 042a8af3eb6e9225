package tests

import (
	"math"
	"slices"
	"testing"

	"loop.example/g01157/impl"
)

func tensor(rows, columns int64, data ...float32) impl.Tensor {
	return impl.Tensor{Rows: rows, Columns: columns, Data: data}
}

// smallTensor has numbers from -8 to 8 with many bits.
func (c *chance) smallTensor(rows, columns int64) impl.Tensor {
	return tensor(rows, columns, c.smallList(int(rows*columns))...)
}

// wholeTensor has integers from -8 to 8, and both zeros.
func (c *chance) wholeTensor(rows, columns int64) impl.Tensor {
	data := make([]float32, rows*columns)
	for i := range data {
		data[i] = float32(int32(c.next()>>16%17) - 8)
		if data[i] == 0 && c.next()>>31 == 1 {
			data[i] = minusZero
		}
	}
	return tensor(rows, columns, data...)
}

// anyTensor has the numbers of edges, and in between those of any bits.
func (c *chance) anyTensor(rows, columns int64) impl.Tensor {
	named := edges()
	data := make([]float32, rows*columns)
	for i := range data {
		data[i] = named[c.next()>>8%uint32(len(named))]
		if c.next()>>30 == 0 {
			data[i] = c.number()
		}
	}
	return tensor(rows, columns, data...)
}

func numberAt(t impl.Tensor, row, column int64) float32 { return t.Data[row*t.Columns+column] }

// withNumber returns t with another number at one place.
func withNumber(t impl.Tensor, row, column int64, number float32) impl.Tensor {
	data := slices.Clone(t.Data)
	data[row*t.Columns+column] = number
	return tensor(t.Rows, t.Columns, data...)
}

// rowTensor returns one row of t as a tensor, made without impl.
func rowTensor(t impl.Tensor, row int64) impl.Tensor {
	return tensor(1, t.Columns, slices.Clone(t.Data[row*t.Columns:(row+1)*t.Columns])...)
}

// roomy returns t with the same numbers, and unused capacity behind them.
func roomy(t impl.Tensor) impl.Tensor {
	data := append(slices.Clone(t.Data), filled(300, 3.25)...)
	t.Data = data[:len(t.Data)]
	return t
}

// shapes has the sides of tensors: one number, MaxSide rows and columns, and
// others.
func shapes() [][2]int64 {
	return [][2]int64{{1, 1}, {1, 2}, {2, 1}, {2, 3}, {3, 2}, {3, 3}, {5, 4}, {1, 16}, {16, 1}, {7, 16}, {16, 7}, {16, 16}}
}

// brokenTensors has tensors that differ from valid ones in one way each.
func brokenTensors() map[string]impl.Tensor {
	return map[string]impl.Tensor{
		"the zero struct":          {},
		"no rows":                  tensor(0, 2),
		"no columns":               tensor(2, 0),
		"no rows with numbers":     tensor(0, 2, 1, 2),
		"a row too many":           tensor(17, 1, filled(17, 1)...),
		"a column too many":        tensor(1, 17, filled(17, 1)...),
		"MaxSide + 1 both ways":    tensor(17, 17, filled(289, 1)...),
		"a number too few":         tensor(2, 2, 1, 2, 3),
		"a number too many":        tensor(2, 2, 1, 2, 3, 4, 5),
		"no numbers":               tensor(1, 1),
		"one too few of the most":  tensor(16, 16, filled(255, 1)...),
		"one too many of the most": tensor(16, 16, filled(257, 1)...),
		"negative rows":            tensor(-1, 2, 1, 2),
		"negative columns":         tensor(2, -1, 1, 2),
		"both negative":            tensor(-2, -2, 1, 2, 3, 4),
		"a product that overflows": tensor(1<<32, 1<<32),
		"the other one":            tensor(math.MinInt64, 2),
		"greatest sides":           tensor(math.MaxInt64, math.MaxInt64, 1),
	}
}

func wantTensor(t *testing.T, what string, got, want impl.Tensor) {
	t.Helper()
	wantValue(t, what+": rows", got.Rows, want.Rows)
	wantValue(t, what+": columns", got.Columns, want.Columns)
	wantValue(t, what+": length", len(got.Data), len(want.Data))
	for i := range min(len(got.Data), len(want.Data)) {
		wantNumber(t, what, got.Data[i], want.Data[i])
	}
}

func wantTensorOk(t *testing.T, what string, got impl.Tensor, ok bool, want impl.Tensor) {
	t.Helper()
	wantValue(t, what+": success", ok, true)
	wantTensor(t, what, got, want)
}

// wantNumbersOk requires a call to have succeeded with a list of numbers.
func wantNumbersOk(t *testing.T, what string, got []float32, ok bool, want []float32) {
	t.Helper()
	wantTensorOk(t, what, impl.Tensor{Data: got}, ok, impl.Tensor{Data: want})
}

// wantFailed requires a call to have failed with the zero value of any type.
func wantFailed(t *testing.T, what string, got any, ok bool) {
	t.Helper()
	wantValue(t, what+": success", ok, false)
	if !isZeroResult(got) {
		t.Errorf("%s fails with %v", what, got)
	}
}
