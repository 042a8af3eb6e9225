package tests

import (
	"math"
	"slices"
	"testing"

	"loop.example/g01157/impl"
)

func plus(x, y float32) float32 { return x + y }

func times(x, y float32) float32 { return x * y }

func reluByRule(x float32) float32 {
	switch {
	case isNan(x):
		return nan
	case x > 0:
		return x
	}
	return 0
}

// allPairs returns tensors in which each pair of two edges stands at the same
// place of both.
func allPairs() (list [][2]impl.Tensor) {
	named := edges()
	for i := range named {
		turned := append(slices.Clone(named[i:]), named[:i]...)
		list = append(list, [2]impl.Tensor{tensor(2, 16, named[:32]...), tensor(2, 16, turned[:32]...)})
	}
	return list
}

func TestTensorsAtTheSamePlaces(t *testing.T) {
	c := chance(30)
	pairs := allPairs()
	for _, shape := range shapes() {
		pairs = append(pairs, [2]impl.Tensor{c.smallTensor(shape[0], shape[1]), c.smallTensor(shape[0], shape[1])})
	}
	for _, pair := range pairs {
		a, b := pair[0], pair[1]
		sums, products := impl.Tensor{Rows: a.Rows, Columns: a.Columns}, impl.Tensor{Rows: a.Rows, Columns: a.Columns}
		for i := range a.Data {
			sums.Data = append(sums.Data, plus(a.Data[i], b.Data[i]))
			products.Data = append(products.Data, times(a.Data[i], b.Data[i]))
		}
		got, ok := impl.AddTensors(a, b)
		wantTensorOk(t, "AddTensors", got, ok, sums)
		got, ok = impl.MulTensors(a, b)
		wantTensorOk(t, "MulTensors", got, ok, products)
	}
}

func TestTensorsOfOtherShapes(t *testing.T) {
	six := []float32{1, 2, 3, 4, 5, 6}
	functions := map[string]func(a, b impl.Tensor) (any, bool){
		"AddTensors":  func(a, b impl.Tensor) (any, bool) { return impl.AddTensors(a, b) },
		"MulTensors":  func(a, b impl.Tensor) (any, bool) { return impl.MulTensors(a, b) },
		"GreatestGap": func(a, b impl.Tensor) (any, bool) { return impl.GreatestGap(a, b) },
	}
	for name, function := range functions {
		for _, other := range []impl.Tensor{
			tensor(3, 2, six...), tensor(6, 1, six...), tensor(1, 6, six...), tensor(1, 3, 1, 2, 3), tensor(2, 1, 1, 2), tensor(1, 1, 1), tensor(3, 3, filled(9, 1)...),
		} {
			got, ok := function(tensor(2, 3, six...), other)
			wantFailed(t, name+" of another shape", got, ok)
			got, ok = function(other, tensor(2, 3, six...))
			wantFailed(t, name+" of another shape first", got, ok)
		}
	}
}

func TestRowsAtEachRow(t *testing.T) {
	c := chance(31)
	for _, shape := range shapes() {
		for range 20 {
			a, row := c.anyTensor(shape[0], shape[1]), c.anyTensor(1, shape[1]).Data
			sums, products := impl.Tensor{Rows: a.Rows, Columns: a.Columns}, impl.Tensor{Rows: a.Rows, Columns: a.Columns}
			for i := range a.Rows {
				for k := range a.Columns {
					sums.Data = append(sums.Data, plus(numberAt(a, i, k), row[k]))
					products.Data = append(products.Data, times(numberAt(a, i, k), row[k]))
				}
			}
			got, ok := impl.AddRow(a, row)
			wantTensorOk(t, "AddRow", got, ok, sums)
			got, ok = impl.MulRow(a, row)
			wantTensorOk(t, "MulRow", got, ok, products)
		}
	}
}

func TestRowsOfOtherLengths(t *testing.T) {
	functions := map[string]func(impl.Tensor, []float32) (impl.Tensor, bool){"AddRow": impl.AddRow, "MulRow": impl.MulRow}
	for name, function := range functions {
		for _, shape := range shapes() {
			a := tensor(shape[0], shape[1], filled(int(shape[0]*shape[1]), 1)...)
			for length := range 258 {
				got, ok := function(a, filled(length, 2))
				if int64(length) == a.Columns {
					wantValue(t, name+": success", ok, true)
				} else {
					wantFailed(t, name+" with a row of another length", got, ok)
				}
			}
			got, ok := function(a, nil)
			wantFailed(t, name+" without a row", got, ok)
		}
	}
}

func TestScaleTensor(t *testing.T) {
	for _, number := range edges() {
		a := tensor(2, 16, edges()[:32]...)
		want := tensor(2, 16)
		for _, x := range a.Data {
			want.Data = append(want.Data, times(x, number))
		}
		got, ok := impl.ScaleTensor(a, number)
		wantTensorOk(t, "ScaleTensor", got, ok, want)
	}
	c := chance(32)
	for _, shape := range shapes() {
		a := c.smallTensor(shape[0], shape[1])
		got, ok := impl.ScaleTensor(a, 1)
		wantTensorOk(t, "ScaleTensor with 1", got, ok, a)
	}
}

func TestReluTensor(t *testing.T) {
	got, ok := impl.ReluTensor(tensor(2, 4, 1, -2, minusZero, 0, least, -least, infinity, -infinity))
	wantTensorOk(t, "ReluTensor", got, ok, tensor(2, 4, 1, 0, 0, 0, least, 0, infinity, 0))
	got, ok = impl.ReluTensor(tensor(1, 4, nan, of(0xffc00000), of(0x7f800001), of(0xff800001)))
	wantTensorOk(t, "ReluTensor of not-a-numbers", got, ok, tensor(1, 4, nan, nan, nan, nan))
	c := chance(33)
	for _, shape := range shapes() {
		for range 20 {
			a := c.anyTensor(shape[0], shape[1])
			want := impl.Tensor{Rows: a.Rows, Columns: a.Columns}
			for _, x := range a.Data {
				want.Data = append(want.Data, reluByRule(x))
			}
			got, ok := impl.ReluTensor(a)
			wantTensorOk(t, "ReluTensor", got, ok, want)
		}
	}
}

func TestGreatestGap(t *testing.T) {
	for _, c := range []struct {
		name string
		a, b []float32
		want float64
	}{
		{"equal ones", []float32{1, 2}, []float32{1, 2}, 0},
		{"both zeros", []float32{0, minusZero}, []float32{minusZero, 0}, 0},
		{"the first place", []float32{5, 2}, []float32{1, 2.5}, 4},
		{"the last place", []float32{1, 2}, []float32{1.5, 4}, 2},
		{"a negative difference", []float32{1, 2}, []float32{9, 1}, 8},
		{"more than 32 bits", []float32{16777216}, []float32{-1}, 16777217},
		{"more than the greatest", []float32{greatest}, []float32{-greatest}, 2 * float64(greatest)},
		{"less than the least share", []float32{1, 0}, []float32{1, least}, math.Ldexp(1, -149)},
		{"one that is rounded", []float32{1}, []float32{least}, 1},
		{"an infinity", []float32{infinity, 1}, []float32{1, 5}, math.Inf(1)},
		{"a negative infinity", []float32{1, 1}, []float32{7, -infinity}, math.Inf(1)},
		{"both infinities", []float32{infinity}, []float32{-infinity}, math.Inf(1)},
		{"the same infinity", []float32{infinity, 1}, []float32{infinity, 9}, math.NaN()},
		{"a not-a-number first", []float32{nan, infinity, 1}, []float32{1, 1, 1}, math.NaN()},
		{"a not-a-number last", []float32{infinity, 8, 1}, []float32{1, 1, of(0xff800001)}, math.NaN()},
		{"a not-a-number between", []float32{1, nan, 9}, []float32{1, 1, 1}, math.NaN()},
		{"two not-a-numbers", []float32{nan}, []float32{nan}, math.NaN()},
	} {
		columns := int64(len(c.a))
		for _, pair := range [][2]impl.Tensor{
			{tensor(1, columns, c.a...), tensor(1, columns, c.b...)}, {tensor(columns, 1, c.b...), tensor(columns, 1, c.a...)},
		} {
			got, ok := impl.GreatestGap(pair[0], pair[1])
			wantOk(t, "GreatestGap of "+c.name, impl.WideBitsOf(got), ok, impl.WideBitsOf(c.want))
		}
	}
}

func TestGreatestGapAtEachPlace(t *testing.T) {
	c := chance(34)
	for _, shape := range shapes() {
		a := c.smallTensor(shape[0], shape[1])
		for row := range a.Rows {
			for column := range a.Columns {
				got, ok := impl.GreatestGap(a, withNumber(a, row, column, 1e9))
				wantOk(t, "GreatestGap at a place", got, ok, 1e9-float64(numberAt(a, row, column)))
				got, ok = impl.GreatestGap(withNumber(a, row, column, nan), withNumber(a, 0, 0, infinity))
				wantValue(t, "GreatestGap with a not-a-number: success", ok, true)
				wantValue(t, "GreatestGap with a not-a-number", math.IsNaN(got), true)
			}
		}
	}
}
