package tests

import (
	"fmt"
	"math"
	"slices"
	"testing"

	"loop.example/g01157/impl"
)

// kept has a model whose outputs are its inputs, up to not-a-numbers.
func kept(size int64) impl.Model {
	return model(layer(impl.LayerScale, size, size, filled(int(size), 1), nil))
}

func wantLabels(t *testing.T, what string, m impl.Model, x impl.Tensor, labels []int64, want [][]int64) {
	t.Helper()
	table, ok := impl.ConfusionOf(m, x, labels)
	wantValue(t, "ConfusionOf "+what, textOfResult(table, ok), textOfResult(want, true))
	var right int64
	for label, outputs := range want {
		right += outputs[label]
	}
	count, ok := impl.CountLabels(m, x, labels)
	wantOk(t, "CountLabels of "+what, count, ok, right)
}

func TestToldLabels(t *testing.T) {
	for _, c := range []struct {
		name   string
		x      impl.Tensor
		labels []int64
		want   [][]int64
	}{
		{"one output", tensor(3, 1, 1, nan, -2), []int64{0, 0, 0}, [][]int64{{3}}},
		{"one row", tensor(1, 2, 1, 2), []int64{0}, [][]int64{{0, 1}, {0, 0}}},
		{"one row that is right", tensor(1, 2, 1, 2), []int64{1}, [][]int64{{0, 0}, {0, 1}}},
		{"the first of equal numbers", tensor(2, 3, 1, 1, 1, 0, 2, 2), []int64{0, 2}, [][]int64{{1, 0, 0}, {0, 0, 0}, {0, 1, 0}}},
		{"zeros", tensor(2, 2, minusZero, 0, 0, minusZero), []int64{1, 0}, [][]int64{{1, 0}, {1, 0}}},
		{"infinities", tensor(3, 3, 1, infinity, 2, -infinity, -infinity, 1, infinity, infinity, 0), []int64{1, 1, 0}, [][]int64{{1, 0, 0}, {0, 1, 1}, {0, 0, 0}}},
		{"a not-a-number first", tensor(2, 3, nan, 1, 2, of(0xffc00001), infinity, 2), []int64{2, 0}, [][]int64{{1, 0, 0}, {0, 0, 0}, {1, 0, 0}}},
		{"a not-a-number later", tensor(2, 3, 1, nan, 2, 1, 2, nan), []int64{1, 1}, [][]int64{{0, 0, 0}, {0, 1, 1}, {0, 0, 0}}},
		{"each label with each output", tensor(4, 2, 2, 1, 1, 2, 2, 1, 1, 2), []int64{0, 0, 1, 1}, [][]int64{{1, 1}, {1, 1}}},
		{"the last label", tensor(2, 8, 0, 0, 0, 0, 0, 0, 0, 1, 1, 0, 0, 0, 0, 0, 0, 0), []int64{7, 7}, append(slices.Repeat([][]int64{make([]int64, 8)}, 7), []int64{1, 0, 0, 0, 0, 0, 0, 1})},
		{"the most rows", tensor(16, 2, slices.Repeat([]float32{1, 2}, 16)...), slices.Repeat([]int64{0, 1}, 8), [][]int64{{0, 8}, {0, 8}}},
		{"the most rows alike", tensor(16, 1, filled(16, 7)...), make([]int64, 16), [][]int64{{16}}},
	} {
		wantLabels(t, c.name, kept(c.x.Columns), c.x, c.labels, c.want)
	}
}

func TestLabelsOfEachModel(t *testing.T) {
	c := chance(740)
	for name, m := range c.models() {
		in, out := m.Layers[0].In, m.Layers[len(m.Layers)-1].Out
		for rows := int64(1); rows <= impl.MaxSide; rows++ {
			for _, x := range []impl.Tensor{c.smallTensor(rows, in), c.anyTensor(rows, in), tensor(rows, in, c.namedList(int(rows*in))...)} {
				labels := c.labels(rows, out)
				what := fmt.Sprintf("%d rows of %s", rows, name)
				wantLabels(t, what, m, x, labels, tableByRule(m, x, labels))
				made, _ := impl.RunModel(m, x)
				right, _ := impl.GreatestColumns(made)
				count, ok := impl.CountLabels(m, x, right)
				wantOk(t, "CountLabels of the greatest columns of "+what, count, ok, rows)
			}
		}
	}
}

// Workers that count in the same place at once lose no row.
func TestCountsOfWorkersAreNotLost(t *testing.T) {
	x, labels := tensor(16, 1, filled(16, 7)...), make([]int64, 16)
	for range 20000 {
		count, ok := impl.CountLabels(kept(1), x, labels)
		wantOk(t, "CountLabels of equal rows", count, ok, 16)
	}
}

func wantNoLabels(t *testing.T, what string, m impl.Model, x impl.Tensor, labels []int64) {
	t.Helper()
	table, ok := impl.ConfusionOf(m, x, labels)
	wantFailed(t, "ConfusionOf "+what, table, ok)
	count, ok := impl.CountLabels(m, x, labels)
	wantFailed(t, "CountLabels of "+what, count, ok)
}

func TestLabelsThatAreNone(t *testing.T) {
	c := chance(741)
	for name, m := range c.models() {
		in, out := m.Layers[0].In, m.Layers[len(m.Layers)-1].Out
		for _, rows := range []int64{1, 2, 7, 8, 9, 16} {
			x := c.smallTensor(rows, in)
			for _, label := range []int64{-1, -2, out, out + 1, 8, 16, 1 << 32, math.MaxInt64, math.MinInt64} {
				for place := range rows {
					labels := c.labels(rows, out)
					labels[place] = label
					wantNoLabels(t, name+" with the label "+impl.Decimal(label), m, x, labels)
				}
			}
			for count := range int64(20) {
				if count != rows {
					wantNoLabels(t, name+" with another number of labels", m, x, make([]int64, count))
				}
			}
			wantNoLabels(t, name+" without labels", m, x, nil)
		}
	}
}

func TestTensorsWithoutLabels(t *testing.T) {
	c := chance(742)
	for name, m := range c.models() {
		for columns := int64(1); columns <= impl.MaxSide; columns++ {
			if columns != m.Layers[0].In {
				wantNoLabels(t, name+" with other columns", m, c.smallTensor(3, columns), make([]int64, 3))
			}
		}
		for kind, broken := range brokenTensors() {
			for _, count := range []int{0, 1, 2, 16, 17} {
				wantNoLabels(t, name+" with "+kind, m, broken, make([]int64, count))
			}
		}
	}
	for name, broken := range brokenModels() {
		for columns := int64(1); columns <= 9; columns++ {
			wantNoLabels(t, name, broken, c.smallTensor(2, columns), make([]int64, 2))
		}
		wantNoLabels(t, name+" without rows", broken, impl.Tensor{}, nil)
	}
}
