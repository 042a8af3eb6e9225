package tests

import (
	"math"
	"testing"

	"loop.example/g01157/impl"
)

func TestValidTensors(t *testing.T) {
	c := chance(20)
	for _, shape := range shapes() {
		wantValue(t, "ValidTensor of a valid one", impl.ValidTensor(c.anyTensor(shape[0], shape[1])), true)
	}
	for rows := range int64(19) {
		for columns := range int64(19) {
			valid := 1 <= rows && rows <= 16 && 1 <= columns && columns <= 16
			numbers := filled(int(rows*columns), nan)
			wantValue(t, "ValidTensor of all sides", impl.ValidTensor(tensor(rows, columns, numbers...)), valid)
			wantValue(t, "ValidTensor with one more", impl.ValidTensor(tensor(rows, columns, append(numbers, 1)...)), false)
			wantValue(t, "ValidTensor with one less", impl.ValidTensor(tensor(rows, columns, numbers[:max(len(numbers)-1, 0)]...)), false)
		}
	}
	for name, broken := range brokenTensors() {
		wantValue(t, "ValidTensor of "+name, impl.ValidTensor(broken), false)
	}
}

func TestFilledTensors(t *testing.T) {
	for _, shape := range shapes() {
		for _, x := range edges() {
			got, ok := impl.FilledTensor(shape[0], shape[1], x)
			wantTensorOk(t, "FilledTensor", got, ok, tensor(shape[0], shape[1], filled(int(shape[0]*shape[1]), x)...))
		}
	}
	for _, side := range []int64{0, -1, -2, 17, 1 << 32, math.MaxInt64, math.MinInt64} {
		for _, shape := range [][2]int64{{side, 1}, {1, side}, {side, 16}, {16, side}, {side, side}} {
			got, ok := impl.FilledTensor(shape[0], shape[1], 1)
			wantFailed(t, "FilledTensor with another side", got, ok)
		}
	}
}

func TestSameTensors(t *testing.T) {
	c := chance(21)
	for _, shape := range shapes() {
		a := c.anyTensor(shape[0], shape[1])
		wantValue(t, "SameTensors of a copy", impl.SameTensors(a, roomy(a)), true)
		for row := range a.Rows {
			for column := range a.Columns {
				other := withNumber(a, row, column, 1234.5)
				wantValue(t, "SameTensors with one other number", impl.SameTensors(a, other), false)
				wantValue(t, "SameTensors turned around", impl.SameTensors(other, a), false)
			}
		}
	}
	for _, x := range edges() {
		for _, y := range edges() {
			got := impl.SameTensors(tensor(1, 2, 5, x), tensor(1, 2, 5, y))
			wantValue(t, "SameTensors of all numbers", got, same(x, y))
		}
	}
}

func TestSameTensorsOfOtherForms(t *testing.T) {
	six := []float32{1, 1, 1, 1, 1, 1}
	for _, shape := range [][2]int64{{1, 6}, {3, 2}, {6, 1}} {
		got := impl.SameTensors(tensor(2, 3, six...), tensor(shape[0], shape[1], six...))
		wantValue(t, "SameTensors of another shape", got, false)
	}
	wantValue(t, "SameTensors of a part", impl.SameTensors(tensor(2, 2, 1, 1, 1, 1), tensor(1, 2, 1, 1)), false)
	for name, broken := range brokenTensors() {
		wantValue(t, "SameTensors twice of "+name, impl.SameTensors(broken, broken), false)
		wantValue(t, "SameTensors behind it of "+name, impl.SameTensors(tensor(1, 1, 1), broken), false)
		wantValue(t, "SameTensors before it of "+name, impl.SameTensors(broken, tensor(1, 1, 1)), false)
	}
}

func TestRowOf(t *testing.T) {
	c := chance(22)
	for _, shape := range shapes() {
		a := c.anyTensor(shape[0], shape[1])
		for row := range a.Rows {
			got, ok := impl.RowOf(roomy(a), row)
			wantNumbersOk(t, "RowOf", got, ok, rowTensor(a, row).Data)
		}
		for _, row := range []int64{-1, a.Rows, a.Rows + 1, math.MaxInt64, math.MinInt64} {
			got, ok := impl.RowOf(roomy(a), row)
			wantFailed(t, "RowOf without this row", got, ok)
		}
	}
}

func TestSliceRows(t *testing.T) {
	c := chance(23)
	for _, shape := range shapes() {
		a := c.anyTensor(shape[0], shape[1])
		for from := int64(-2); from <= a.Rows+1; from++ {
			for count := int64(-2); count <= a.Rows+2; count++ {
				got, ok := impl.SliceRows(roomy(a), from, count)
				if from < 0 || count < 1 || from+count > a.Rows {
					wantFailed(t, "SliceRows without these rows", got, ok)
					continue
				}
				data := a.Data[from*a.Columns : (from+count)*a.Columns]
				wantTensorOk(t, "SliceRows", got, ok, tensor(count, a.Columns, data...))
			}
		}
	}
	for _, pair := range [][2]int64{
		{1, math.MaxInt64}, {math.MaxInt64, 1}, {math.MaxInt64, math.MaxInt64}, {math.MinInt64, math.MinInt64},
		{math.MinInt64, math.MaxInt64}, {math.MaxInt64, math.MinInt64}, {1 << 62, 1 << 62}, {0, 1 << 60}, {1 << 60, 1},
	} {
		got, ok := impl.SliceRows(tensor(2, 2, 1, 2, 3, 4), pair[0], pair[1])
		wantFailed(t, "SliceRows of great numbers", got, ok)
	}
}

func TestStackRows(t *testing.T) {
	one, two := tensor(1, 2, 1, minusZero), tensor(2, 2, nan, 4, -infinity, 6)
	got, ok := impl.StackRows([]impl.Tensor{one})
	wantTensorOk(t, "StackRows of one", got, ok, one)
	got, ok = impl.StackRows([]impl.Tensor{one, two})
	wantTensorOk(t, "StackRows of two", got, ok, tensor(3, 2, 1, minusZero, nan, 4, -infinity, 6))
	got, ok = impl.StackRows([]impl.Tensor{two, one, one})
	wantTensorOk(t, "StackRows of three", got, ok, tensor(4, 2, nan, 4, -infinity, 6, 1, minusZero, 1, minusZero))
	for _, columns := range []int64{1, 3, 16} {
		c := chance(24)
		full := c.anyTensor(16, columns)
		var rows []impl.Tensor
		for row := range full.Rows {
			rows = append(rows, roomy(rowTensor(full, row)))
		}
		got, ok = impl.StackRows(rows)
		wantTensorOk(t, "StackRows of MaxStack", got, ok, full)
		got, ok = impl.StackRows(append(rows, rows[0]))
		wantFailed(t, "StackRows of one more", got, ok)
	}
}

func TestStackRowsThatDoNotFit(t *testing.T) {
	eight, nine := tensor(8, 1, filled(8, 1)...), tensor(9, 1, filled(9, 1)...)
	got, ok := impl.StackRows([]impl.Tensor{eight, eight})
	wantTensorOk(t, "StackRows of MaxSide rows", got, ok, tensor(16, 1, filled(16, 1)...))
	two, three := tensor(1, 2, 1, 2), tensor(1, 3, 1, 2, 3)
	for name, list := range map[string][]impl.Tensor{
		"none":                         nil,
		"an empty list":                {},
		"too many rows":                {eight, nine},
		"too many rows the other way":  {nine, eight},
		"other columns":                {two, three},
		"other columns first":          {three, two},
		"other columns last":           {two, two, three},
		"columns that even out":        {two, three, tensor(1, 1, 1)},
		"a column for a row":           {two, tensor(2, 1, 1, 2)},
		"the most full ones, over all": {tensor(16, 16, filled(256, 1)...), tensor(16, 16, filled(256, 1)...)},
	} {
		got, ok := impl.StackRows(list)
		wantFailed(t, "StackRows of "+name, got, ok)
	}
	for name, broken := range brokenTensors() {
		fitting := tensor(1, max(1, min(broken.Columns, 16)), filled(int(max(1, min(broken.Columns, 16))), 1)...)
		for _, list := range [][]impl.Tensor{{broken}, {broken, broken}, {fitting, broken}, {broken, fitting}, {fitting, broken, fitting}} {
			got, ok := impl.StackRows(list)
			wantFailed(t, "StackRows with "+name, got, ok)
		}
	}
}

func TestTransposeTensor(t *testing.T) {
	got, ok := impl.TransposeTensor(tensor(2, 3, 1, 2, 3, 4, 5, 6))
	wantTensorOk(t, "TransposeTensor", got, ok, tensor(3, 2, 1, 4, 2, 5, 3, 6))
	c := chance(25)
	for _, shape := range shapes() {
		a := c.anyTensor(shape[0], shape[1])
		turned, ok := impl.TransposeTensor(roomy(a))
		wantValue(t, "TransposeTensor: success", ok, true)
		wantValue(t, "TransposeTensor: validity", impl.ValidTensor(turned), true)
		wantValue(t, "TransposeTensor: rows", turned.Rows, a.Columns)
		for row := range a.Rows {
			for column := range a.Columns {
				wantNumber(t, "TransposeTensor", numberAt(turned, column, row), numberAt(a, row, column))
			}
		}
		back, ok := impl.TransposeTensor(turned)
		wantTensorOk(t, "TransposeTensor twice", back, ok, a)
	}
}
