package tests

import (
	"math"
	"testing"

	"loop.example/g01157/impl"
)

func rowByRule(x, kernel []float32, stride int) (sums []float32) {
	for from := 0; from+len(kernel) <= len(x); from += stride {
		sums = append(sums, dotByRule(kernel, x[from:from+len(kernel)]))
	}
	return sums
}

func TestConvolveRow(t *testing.T) {
	x := []float32{1, 2, 4, 8, 16, 32, 64, 128}
	for _, c := range []struct {
		count  int
		kernel []float32
		stride int64
		want   []float32
	}{
		{1, []float32{3}, 1, []float32{3}},
		{1, []float32{3}, 8, []float32{3}},
		{3, []float32{1, -1}, 1, []float32{-1, -2}},
		{3, []float32{1, -1}, 2, []float32{-1}},
		{4, []float32{1, -1}, 2, []float32{-1, -4}},
		{5, []float32{1, -1}, 2, []float32{-1, -4}},
		{3, []float32{1, 10, 100}, 1, []float32{421}},
		{8, []float32{1}, 8, []float32{1}},
		{8, []float32{1}, 7, []float32{1, 128}},
		{8, []float32{1}, 3, []float32{1, 8, 64}},
		{8, []float32{1, 1, 1, 1, 1, 1, 1, 1}, 1, []float32{255}},
		{8, []float32{1, 1, 1, 1, 1, 1, 1}, 1, []float32{127, 254}},
	} {
		got, ok := impl.ConvolveRow(x[:c.count], c.kernel, c.stride)
		wantNumbersOk(t, "ConvolveRow", got, ok, c.want)
	}
	c := chance(80)
	for count := 1; count <= 8; count++ {
		for width := 1; width <= 8; width++ {
			for stride := int64(1); stride <= 8; stride++ {
				x, kernel := c.smallList(count), c.smallList(width)
				if stride == 3 {
					x, kernel = c.anyTensor(1, int64(count)).Data, c.anyTensor(1, int64(width)).Data
				}
				got, ok := impl.ConvolveRow(x, kernel, stride)
				if width > count {
					wantFailed(t, "ConvolveRow with a longer kernel", got, ok)
				} else {
					wantNumbersOk(t, "ConvolveRow", got, ok, rowByRule(x, kernel, int(stride)))
				}
			}
		}
	}
}

func TestConvolveRowIsADot(t *testing.T) {
	for _, c := range dotCases() {
		got, ok := impl.ConvolveRow(c.a, c.b, 1)
		if len(c.a) == 0 {
			wantFailed(t, "ConvolveRow of "+c.name, got, ok)
		} else {
			wantNumbersOk(t, "ConvolveRow of "+c.name, got, ok, []float32{c.dot})
		}
	}
}

func TestConvolveRowOfOtherSizes(t *testing.T) {
	x := filled(8, 1)
	for _, stride := range []int64{0, -1, -2, 9, 10, 256, math.MaxInt64, math.MinInt64} {
		got, ok := impl.ConvolveRow(x, []float32{1}, stride)
		wantFailed(t, "ConvolveRow with another stride", got, ok)
	}
	for _, pair := range [][2][]float32{
		{nil, nil}, {nil, {1}}, {x, nil}, {{1}, {1, 2}}, {x, filled(9, 1)}, {filled(9, 1), {1}}, {filled(9, 1), filled(9, 1)}, {filled(257, 1), {1}},
	} {
		got, ok := impl.ConvolveRow(pair[0], pair[1], 1)
		wantFailed(t, "ConvolveRow of other lengths", got, ok)
	}
}

// partByRule returns the numbers of a part of an image, row by row.
func partByRule(image impl.Tensor, top, left, rows, columns int64) (part []float32) {
	for r := range rows {
		for c := range columns {
			part = append(part, numberAt(image, top+r, left+c))
		}
	}
	return part
}

func imageByRule(image, kernel impl.Tensor) impl.Tensor {
	made := impl.Tensor{Rows: image.Rows - kernel.Rows + 1, Columns: image.Columns - kernel.Columns + 1}
	for r := range made.Rows {
		for c := range made.Columns {
			made.Data = append(made.Data, dotByRule(kernel.Data, partByRule(image, r, c, kernel.Rows, kernel.Columns)))
		}
	}
	return made
}

func TestConvolveImage(t *testing.T) {
	nine := tensor(3, 3, 1, 2, 3, 4, 5, 6, 7, 8, 9)
	for _, c := range []struct{ kernel, want impl.Tensor }{
		{tensor(1, 1, 2), tensor(3, 3, 2, 4, 6, 8, 10, 12, 14, 16, 18)},
		{tensor(1, 2, 1, 10), tensor(3, 2, 21, 32, 54, 65, 87, 98)},
		{tensor(2, 1, 1, 10), tensor(2, 3, 41, 52, 63, 74, 85, 96)},
		{tensor(2, 2, 1, 10, 100, 1000), tensor(2, 2, 5421, 6532, 8754, 9865)},
		{nine, tensor(1, 1, 285)},
		{tensor(3, 1, 1, 0, -1), tensor(1, 3, -6, -6, -6)},
		{tensor(1, 3, 1, 0, -1), tensor(3, 1, -2, -2, -2)},
	} {
		got, ok := impl.ConvolveImage(nine, c.kernel)
		wantTensorOk(t, "ConvolveImage", got, ok, c.want)
	}
	c := chance(81)
	for _, first := range shapes() {
		for _, second := range append(shapes(), [2]int64{3, 1}, [2]int64{1, 3}, [2]int64{2, 2}, [2]int64{17 - first[0], 17 - first[1]}) {
			for _, image := range []impl.Tensor{c.smallTensor(first[0], first[1]), c.anyTensor(first[0], first[1])} {
				kernel := c.smallTensor(second[0], second[1])
				got, ok := impl.ConvolveImage(image, kernel)
				if second[0] > first[0] || second[1] > first[1] {
					wantFailed(t, "ConvolveImage with a larger kernel", got, ok)
				} else {
					wantTensorOk(t, "ConvolveImage", got, ok, imageByRule(image, kernel))
				}
			}
		}
	}
}

func TestConvolveImageInOrder(t *testing.T) {
	const big = 16777216
	for _, c := range []struct {
		image impl.Tensor
		want  float32
	}{
		{tensor(2, 2, big, 1, 1, 1), big},
		{tensor(2, 2, 1, 1, 1, big), big + 4},
		{tensor(2, 2, 1, big, -big, 1), 1},
		{tensor(2, 2, 1, -1, big, 1), big},
		{tensor(2, 2, minusZero, minusZero, minusZero, minusZero), 0},
		{tensor(2, 2, infinity, 1, 1, -infinity), nan},
	} {
		got, ok := impl.ConvolveImage(c.image, tensor(2, 2, 1, 1, 1, 1))
		wantTensorOk(t, "ConvolveImage in order", got, ok, tensor(1, 1, c.want))
		mean, ok := impl.PoolMean(c.image, 2)
		wantTensorOk(t, "PoolMean in order", mean, ok, tensor(1, 1, c.want/4))
	}
}

// poolByRule makes a number of each square.
func poolByRule(image impl.Tensor, size int64, take func([]float32) float32) impl.Tensor {
	made := impl.Tensor{Rows: image.Rows / size, Columns: image.Columns / size}
	for r := range made.Rows {
		for c := range made.Columns {
			made.Data = append(made.Data, take(partByRule(image, r*size, c*size, size, size)))
		}
	}
	return made
}

func mostByRule(list []float32) float32 {
	most := list[0]
	for _, x := range list[1:] {
		if x > most {
			most = x
		}
	}
	return most
}

func meanByRule(list []float32) float32 { return sumByRule(list) / float32(len(list)) }

func TestPools(t *testing.T) {
	c := chance(82)
	for rows := int64(1); rows <= 16; rows++ {
		for columns := int64(1); columns <= 16; columns++ {
			for size := int64(-1); size <= 17; size++ {
				for _, image := range []impl.Tensor{c.smallTensor(rows, columns), c.anyTensor(rows, columns)} {
					most, ok := impl.PoolMost(image, size)
					mean, fine := impl.PoolMean(image, size)
					if size < 1 || size > 8 || rows%size != 0 || columns%size != 0 {
						wantFailed(t, "PoolMost with a size that does not divide", most, ok)
						wantFailed(t, "PoolMean with a size that does not divide", mean, fine)
						continue
					}
					wantTensorOk(t, "PoolMost", most, ok, poolByRule(image, size, mostByRule))
					wantTensorOk(t, "PoolMean", mean, fine, poolByRule(image, size, meanByRule))
				}
			}
		}
	}
}

func TestSquares(t *testing.T) {
	for _, c := range []struct {
		image      impl.Tensor
		size       int64
		most, mean impl.Tensor
	}{
		{tensor(1, 1, minusZero), 1, tensor(1, 1, minusZero), tensor(1, 1, 0)},
		{tensor(2, 4, 1, 2, 5, 6, 3, 4, 8, 7), 2, tensor(1, 2, 4, 8), tensor(1, 2, 2.5, 6.5)},
		{tensor(4, 2, 1, 2, 3, 4, 5, 6, 7, 9), 2, tensor(2, 1, 4, 9), tensor(2, 1, 2.5, 6.75)},
		{tensor(2, 2, 0, minusZero, minusZero, 0), 2, tensor(1, 1, 0), tensor(1, 1, 0)},
		{tensor(2, 2, minusZero, 0, 0, 0), 2, tensor(1, 1, minusZero), tensor(1, 1, 0)},
		{tensor(2, 2, nan, 1, 2, 3), 2, tensor(1, 1, nan), tensor(1, 1, nan)},
		{tensor(2, 2, 1, nan, 2, 0), 2, tensor(1, 1, 2), tensor(1, 1, nan)},
		{tensor(2, 2, 1, 0, 2, nan), 2, tensor(1, 1, 2), tensor(1, 1, nan)},
		{tensor(2, 2, -infinity, -greatest, 1, infinity), 2, tensor(1, 1, infinity), tensor(1, 1, nan)},
		{tensor(2, 2, -infinity, -infinity, -infinity, -infinity), 2, tensor(1, 1, -infinity), tensor(1, 1, -infinity)},
		{tensor(2, 2, greatest, greatest, 0, 0), 2, tensor(1, 1, greatest), tensor(1, 1, infinity)},
	} {
		most, ok := impl.PoolMost(c.image, c.size)
		wantTensorOk(t, "PoolMost", most, ok, c.most)
		mean, ok := impl.PoolMean(c.image, c.size)
		wantTensorOk(t, "PoolMean", mean, ok, c.mean)
	}
	for _, size := range []int64{0, -1, -2, 9, 16, math.MaxInt64, math.MinInt64} {
		most, ok := impl.PoolMost(tensor(16, 16, filled(256, 1)...), size)
		wantFailed(t, "PoolMost with another size", most, ok)
		mean, ok := impl.PoolMean(tensor(16, 16, filled(256, 1)...), size)
		wantFailed(t, "PoolMean with another size", mean, ok)
	}
}

func attendByRule(queries, keys, values impl.Tensor, causal bool) impl.Tensor {
	made := impl.Tensor{Rows: values.Rows, Columns: values.Columns}
	root := impl.RootNumber(float32(queries.Columns))
	for i := range queries.Rows {
		count := keys.Rows
		if causal {
			count = i + 1
		}
		scores := make([]float32, count)
		for j := range scores {
			scores[j] = dotByRule(rowTensor(queries, i).Data, rowTensor(keys, int64(j)).Data) / root
		}
		row := make([]float32, values.Columns)
		for j, share := range softmaxByRule(scores) {
			for k := range row {
				term := float32(share * numberAt(values, int64(j), int64(k)))
				row[k] = float32(row[k] + term)
			}
		}
		made.Data = append(made.Data, row...)
	}
	return made
}

func TestAttendRows(t *testing.T) {
	c := chance(83)
	for rows := int64(1); rows <= 10; rows++ {
		for _, columns := range []int64{1, 2, 3, 8, 16} {
			for _, width := range []int64{1, 2, 5, 16} {
				for _, causal := range []bool{false, true} {
					queries, keys, values := c.smallTensor(rows, columns), c.smallTensor(rows, columns), c.smallTensor(rows, width)
					if width == 5 {
						queries, values = c.anyTensor(rows, columns), c.anyTensor(rows, width)
					}
					got, ok := impl.AttendRows(queries, keys, values, causal)
					if rows > 8 {
						wantFailed(t, "AttendRows of more than MaxSize rows", got, ok)
					} else {
						wantTensorOk(t, "AttendRows", got, ok, attendByRule(queries, keys, values, causal))
					}
				}
			}
		}
	}
}

func TestAttendRowsOfToldBits(t *testing.T) {
	queries, keys := tensor(3, 2, 0.1, 0.2, -0.3, 0.9, 1.7, -0.4), tensor(3, 2, 0.5, -0.6, 1.1, 0.3, -0.8, 2.2)
	values := tensor(3, 3, 0.1, 0.7, 1, -0.9, 0.3, 1, 1.9, -2.1, 1)
	got, ok := impl.AttendRows(queries, keys, values, false)
	wantTensorOk(t, "AttendRows", got, ok, tensor(3, 3,
		of(0x3ee8a674), of(0xbf017d18), 1, of(0x3fa729d4), of(0xbfbc230b), 1, of(0xbedbd7e9), of(0x3eba604d), 1))
	got, ok = impl.AttendRows(queries, keys, values, true)
	wantTensorOk(t, "AttendRows, causal", got, ok, tensor(3, 3,
		of(0x3dcccccd), of(0x3f333333), 1, of(0xbf0272bf), of(0x3ee98fba), 1, of(0xbedbd7e9), of(0x3eba604d), 1))
}

func TestAttendRowsNamedCases(t *testing.T) {
	two, values := tensor(2, 1, 0, 0), tensor(2, 2, 1, 2, 3, 4)
	for _, c := range []struct {
		name                  string
		queries, keys, values impl.Tensor
		causal                bool
		want                  impl.Tensor
	}{
		{"one row", tensor(1, 1, 5), tensor(1, 1, 7), tensor(1, 2, 3, minusZero), false, tensor(1, 2, 3, 0)},
		{"one causal row", tensor(1, 1, 5), tensor(1, 1, 7), tensor(1, 2, 3, minusZero), true, tensor(1, 2, 3, 0)},
		{"equal scores", two, two, values, false, tensor(2, 2, 2, 3, 2, 3)},
		{"equal causal scores", two, two, values, true, tensor(2, 2, 1, 2, 2, 3)},
		{"one great score", tensor(2, 1, 1000, -1000), tensor(2, 1, 1, -1), values, false, tensor(2, 2, 1, 2, 3, 4)},
		{"a score of infinity", tensor(2, 1, infinity, 0), tensor(2, 1, 1, 1), values, false, tensor(2, 2, nan, nan, 2, 3)},
		{"a score of -infinity", tensor(2, 1, 1, 0), tensor(2, 1, 1, -infinity), values, false, tensor(2, 2, 1, 2, nan, nan)},
		{"a causal one of -infinity", tensor(2, 1, 1, 1), tensor(2, 1, 1, -infinity), values, true, tensor(2, 2, 1, 2, 1, 2)},
		{"a share of 0 and an infinity", tensor(2, 1, 1000, 0), tensor(2, 1, 1, -1), tensor(2, 2, 1, 2, infinity, 4), false, tensor(2, 2, nan, 2, infinity, 3)},
		{"a later infinity", tensor(2, 1, 0, 0), tensor(2, 1, 0, infinity), tensor(2, 1, 1, infinity), true, tensor(2, 1, 1, nan)},
		{"a not-a-number as a query", tensor(2, 1, nan, 0), two, values, false, tensor(2, 2, nan, nan, 2, 3)},
		{"a not-a-number as a key", two, tensor(2, 1, 0, nan), values, true, tensor(2, 2, 1, 2, nan, nan)},
		{"a not-a-number as a value", two, two, tensor(2, 2, 1, 2, 3, nan), true, tensor(2, 2, 1, 2, 2, nan)},
	} {
		got, ok := impl.AttendRows(c.queries, c.keys, c.values, c.causal)
		wantTensorOk(t, "AttendRows of "+c.name, got, ok, c.want)
	}
}

func TestAttendRowsThatDoNotFit(t *testing.T) {
	c := chance(84)
	queries, keys, values := c.smallTensor(3, 2), c.smallTensor(3, 2), c.smallTensor(3, 4)
	for _, causal := range []bool{false, true} {
		refused := func(what string, queries, keys, values impl.Tensor) {
			got, ok := impl.AttendRows(queries, keys, values, causal)
			wantFailed(t, "AttendRows with "+what, got, ok)
		}
		for _, rows := range []int64{2, 4} {
			refused("other rows of queries", c.smallTensor(rows, 2), keys, values)
			refused("other rows of keys", queries, c.smallTensor(rows, 2), values)
			refused("other rows of values", queries, keys, c.smallTensor(rows, 4))
			refused("other rows of queries and keys", c.smallTensor(rows, 2), c.smallTensor(rows, 2), values)
		}
		for _, columns := range []int64{1, 3, 4} {
			refused("other columns of queries", c.smallTensor(3, columns), keys, values)
			refused("other columns of keys", queries, c.smallTensor(3, columns), values)
		}
		for name, broken := range brokenTensors() {
			for _, valid := range append(matching(broken), queries) {
				refused("queries: "+name, broken, valid, valid)
				refused("keys: "+name, valid, broken, valid)
				refused("values: "+name, valid, valid, broken)
			}
			refused("all: "+name, broken, broken, broken)
		}
	}
}
