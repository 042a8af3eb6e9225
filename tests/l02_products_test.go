package tests

import (
	"testing"

	"loop.example/g01157/impl"
)

// productByRule has each number of a product by the text of the document,
// where a block that is longer than the rows of a is all of them.
func productByRule(a, b impl.Tensor, block int64) impl.Tensor {
	product := impl.Tensor{Rows: a.Rows, Columns: b.Columns}
	for i := range a.Rows {
		for k := range b.Columns {
			var sum, part float32
			for j := range a.Columns {
				if j > 0 && j%block == 0 {
					sum, part = float32(sum+part), 0
				}
				term := float32(numberAt(a, i, j) * numberAt(b, j, k))
				part = float32(part + term)
			}
			product.Data = append(product.Data, float32(sum+part))
		}
	}
	return product
}

func wideByRule(a, b impl.Tensor) impl.Tensor {
	product := impl.Tensor{Rows: a.Rows, Columns: b.Columns}
	for i := range a.Rows {
		for k := range b.Columns {
			var sum float64
			for j := range a.Columns {
				term := float64(float64(numberAt(a, i, j)) * float64(numberAt(b, j, k)))
				sum = float64(sum + term)
			}
			product.Data = append(product.Data, float32(sum))
		}
	}
	return product
}

func checkProducts(t *testing.T, a, b impl.Tensor) {
	t.Helper()
	got, ok := impl.MatMul(a, b)
	wantTensorOk(t, "MatMul", got, ok, productByRule(a, b, 16))
	got, ok = impl.MatMulWide(a, b)
	wantTensorOk(t, "MatMulWide", got, ok, wideByRule(a, b))
	for block := int64(1); block <= 16; block++ {
		got, ok = impl.MatMulBlocks(a, b, block)
		wantTensorOk(t, "MatMulBlocks", got, ok, productByRule(a, b, block))
	}
}

func TestProductsOfEachShape(t *testing.T) {
	c := chance(40)
	for _, first := range shapes() {
		for _, columns := range []int64{1, 2, 3, 16} {
			checkProducts(t, c.smallTensor(first[0], first[1]), c.smallTensor(first[1], columns))
			checkProducts(t, c.anyTensor(first[0], first[1]), c.anyTensor(first[1], columns))
		}
	}
	for inner := int64(1); inner <= 16; inner++ {
		checkProducts(t, c.smallTensor(2, inner), c.smallTensor(inner, 3))
	}
}

func TestProductsOfARowAndAColumn(t *testing.T) {
	for _, c := range dotCases() {
		count := int64(len(c.a))
		if count == 0 {
			continue
		}
		row, column := tensor(1, count, c.a...), tensor(count, 1, c.b...)
		got, ok := impl.MatMul(row, column)
		wantTensorOk(t, "MatMul of "+c.name, got, ok, tensor(1, 1, c.dot))
		got, ok = impl.MatMulBlocks(row, column, impl.MaxSide)
		wantTensorOk(t, "MatMulBlocks of "+c.name, got, ok, tensor(1, 1, c.dot))
		got, ok = impl.MatMulWide(row, column)
		wantTensorOk(t, "MatMulWide of "+c.name, got, ok, tensor(1, 1, c.wider))
	}
}

func TestProductsWhoseOrderDecides(t *testing.T) {
	const big = 16777216 // its next greater number is 2 away
	for _, c := range []struct {
		row        []float32
		line, wide float32
		blocks     []float32 // for blocks of 1, of 2 and so on
	}{
		{[]float32{big, 1, 1}, big, big + 2, []float32{big, big, big, big}},
		{[]float32{1, 1, big}, big + 2, big + 2, []float32{big + 2, big + 2, big + 2, big + 2}},
		{[]float32{big, 1, 1, 1}, big, big + 4, []float32{big, big + 2, big, big, big}},
		{[]float32{1, big, 1, 1, 1}, big, big + 4, []float32{big, big + 4, big + 2, big, big}},
		{[]float32{big, 1, 1, -big}, 0, 2, []float32{0, 1, 0, 0}},
		{[]float32{big, -big, 1, 1}, 2, 2, []float32{2, 2, 2, 2}},
		{[]float32{1, big, -big, 1}, 1, 2, []float32{1, 1, 1, 1}},
		{[]float32{greatest, greatest, -greatest}, infinity, greatest, []float32{infinity, infinity, infinity}},
		{[]float32{greatest, -greatest, greatest, greatest}, infinity, infinity, []float32{infinity, infinity, infinity, infinity}},
		{[]float32{greatest, greatest, -greatest, -greatest}, infinity, 0, []float32{infinity, nan, infinity, infinity}},
		{[]float32{minusZero}, 0, 0, []float32{0, 0}},
		{[]float32{minusZero, minusZero, minusZero}, 0, 0, []float32{0, 0, 0, 0}},
		{[]float32{infinity, 1, -infinity}, nan, nan, []float32{nan, nan, nan}},
	} {
		count := int64(len(c.row))
		row, ones := tensor(1, count, c.row...), tensor(count, 1, filled(len(c.row), 1)...)
		got, ok := impl.MatMul(row, ones)
		wantTensorOk(t, "MatMul", got, ok, tensor(1, 1, c.line))
		got, ok = impl.MatMulWide(row, ones)
		wantTensorOk(t, "MatMulWide", got, ok, tensor(1, 1, c.wide))
		for i, want := range c.blocks {
			got, ok = impl.MatMulBlocks(row, ones, int64(i)+1)
			wantTensorOk(t, "MatMulBlocks", got, ok, tensor(1, 1, want))
		}
	}
}

func TestWideProductsAreNarrowedOnce(t *testing.T) {
	got, ok := impl.MatMulWide(tensor(1, 1, -least), tensor(1, 1, least))
	wantTensorOk(t, "MatMulWide under the least", got, ok, tensor(1, 1, minusZero))
	got, ok = impl.MatMul(tensor(1, 1, -least), tensor(1, 1, least))
	wantTensorOk(t, "MatMul under the least", got, ok, tensor(1, 1, 0))
	got, ok = impl.MatMulBlocks(tensor(1, 1, -least), tensor(1, 1, least), 1)
	wantTensorOk(t, "MatMulBlocks under the least", got, ok, tensor(1, 1, 0))
	// A sum of 1 and half of what 1 lacks to its next number, and a bit more.
	got, ok = impl.MatMulWide(tensor(1, 3, 1, of(0x33800000), of(0x26800000)), tensor(3, 1, 1, 1, 1))
	wantTensorOk(t, "MatMulWide above the middle", got, ok, tensor(1, 1, of(0x3f800001)))
}

func TestProductsThatDoNotFit(t *testing.T) {
	functions := map[string]func(a, b impl.Tensor) (impl.Tensor, bool){
		"MatMul": impl.MatMul, "MatMulWide": impl.MatMulWide,
		"MatMulBlocks": func(a, b impl.Tensor) (impl.Tensor, bool) { return impl.MatMulBlocks(a, b, 2) },
	}
	c := chance(41)
	for name, function := range functions {
		for _, first := range shapes() {
			for _, second := range shapes() {
				got, ok := function(c.smallTensor(first[0], first[1]), c.smallTensor(second[0], second[1]))
				if first[1] != second[0] {
					wantFailed(t, name+" of tensors that do not fit", got, ok)
					continue
				}
				wantValue(t, name+": success", ok, true)
				wantValue(t, name+": shape", [2]int64{got.Rows, got.Columns}, [2]int64{first[0], second[1]})
			}
		}
	}
}

func TestBlocksOfOtherSizes(t *testing.T) {
	a, b := tensor(1, 2, 1, 2), tensor(2, 1, 3, 4)
	for _, n := range append(anyIntegers(), 15, 16, 17, 18) {
		got, ok := impl.MatMulBlocks(a, b, n)
		if n < 1 || n > 16 {
			wantFailed(t, "MatMulBlocks with another block", got, ok)
		} else {
			wantTensorOk(t, "MatMulBlocks", got, ok, tensor(1, 1, 11))
		}
	}
}

func TestSumsOfTensors(t *testing.T) {
	const big = 16777216
	for _, c := range []struct {
		name string
		sum  impl.Tensor
		rows []float32
		all  float32
	}{
		{"one number", tensor(1, 1, 2.5), []float32{2.5}, 2.5},
		{"one -0", tensor(1, 1, minusZero), []float32{0}, 0},
		{"one row", tensor(1, 3, 1, minusZero, -3), []float32{1, 0, -3}, -2},
		{"two rows", tensor(2, 2, 1, 2, 3, 4), []float32{4, 6}, 10},
		{"big first", tensor(3, 1, big, 1, 1), []float32{big}, big},
		{"big last", tensor(3, 1, 1, 1, big), []float32{big + 2}, big + 2},
		{"big first of four", tensor(2, 2, big, 1, 1, 1), []float32{big, 2}, big},
		{"big last of four", tensor(2, 2, 1, 1, 1, big), []float32{2, big}, big + 4},
		{"in the order of Data", tensor(2, 2, big, 1, -big, 1), []float32{0, 2}, 1},
		{"-0 alone", tensor(2, 2, minusZero, minusZero, minusZero, minusZero), []float32{0, 0}, 0},
		{"infinities", tensor(2, 3, infinity, infinity, 1, 1, -infinity, 2), []float32{infinity, nan, 3}, nan},
		{"a not-a-number", tensor(2, 2, 1, of(0xffc00001), 3, 4), []float32{4, nan}, nan},
		{"over the greatest", tensor(3, 1, greatest, greatest, -greatest), []float32{infinity}, infinity},
	} {
		rows, ok := impl.SumRows(c.sum)
		wantNumbersOk(t, "SumRows of "+c.name, rows, ok, c.rows)
		all, ok := impl.SumAll(c.sum)
		wantNumberOk(t, "SumAll of "+c.name, all, ok, c.all)
	}
}

func TestSumsOfEachShape(t *testing.T) {
	c := chance(42)
	for _, shape := range shapes() {
		a := c.smallTensor(shape[0], shape[1])
		columns := make([]float32, a.Columns)
		var all float32
		for i := range a.Rows {
			for k := range a.Columns {
				columns[k] = columns[k] + numberAt(a, i, k)
				all = all + numberAt(a, i, k)
			}
		}
		rows, ok := impl.SumRows(a)
		wantNumbersOk(t, "SumRows", rows, ok, columns)
		sum, ok := impl.SumAll(a)
		wantNumberOk(t, "SumAll", sum, ok, all)
	}
	all, ok := impl.SumAll(tensor(16, 16, filled(256, 1)...))
	wantNumberOk(t, "SumAll of the most numbers", all, ok, 256)
	rows, ok := impl.SumRows(tensor(16, 16, filled(256, 0.5)...))
	wantNumbersOk(t, "SumRows of the most numbers", rows, ok, filled(16, 8))
}

func TestGreatestColumns(t *testing.T) {
	for _, c := range []struct {
		row  []float32
		want int64
	}{
		{[]float32{7}, 0}, {[]float32{nan}, 0}, {[]float32{1, 3, 3}, 1}, {[]float32{2, -1, 0}, 0}, {[]float32{1, 2, 3}, 2},
		{[]float32{3, 1, 2, 3}, 0}, {[]float32{0, minusZero}, 0}, {[]float32{minusZero, 0}, 0}, {[]float32{minusZero, least}, 1},
		{[]float32{nan, 5, 7}, 0}, {[]float32{1, nan, 3}, 2}, {[]float32{3, nan, 1}, 0}, {[]float32{1, 3, nan}, 1}, {[]float32{1, nan, 0}, 0},
		{[]float32{-infinity, -infinity}, 0}, {[]float32{-infinity, -greatest}, 1}, {[]float32{greatest, infinity, infinity}, 1},
		{[]float32{-infinity, nan, nan, 1}, 3}, {[]float32{nan, nan}, 0}, {[]float32{-3, -2, -1, -2}, 2},
	} {
		got, ok := impl.GreatestColumns(tensor(1, int64(len(c.row)), c.row...))
		wantListOk(t, "GreatestColumns", got, ok, []int64{c.want})
	}
}

func TestGreatestColumnsAtEachPlace(t *testing.T) {
	c := chance(43)
	for _, shape := range shapes() {
		a := c.smallTensor(shape[0], shape[1])
		for row := range a.Rows {
			for column := range a.Columns {
				got, ok := impl.GreatestColumns(withNumber(a, row, column, 9))
				wantValue(t, "GreatestColumns: success", ok, true)
				wantValue(t, "GreatestColumns: length", len(got), int(a.Rows))
				wantValue(t, "GreatestColumns at a place", got[row], column)
			}
		}
		b := c.anyTensor(shape[0], shape[1])
		got, ok := impl.GreatestColumns(b)
		want := make([]int64, b.Rows)
		for row := range b.Rows {
			for column := range b.Columns {
				if numberAt(b, row, column) > numberAt(b, row, want[row]) {
					want[row] = column
				}
			}
		}
		wantListOk(t, "GreatestColumns of any numbers", got, ok, want)
	}
}
