package tests

import (
	"math"
	"slices"
	"testing"

	"loop.example/g01157/impl"
)

func dense(in, out int64, weights, bias []float32) impl.Layer {
	return layer(impl.LayerDense, in, out, weights, bias)
}

// wideDotByRule adds products of 64-bit numbers in order, and narrows the sum.
func wideDotByRule(a, b []float32) float32 {
	var sum float64
	for i := range a {
		term := float64(a[i]) * float64(b[i])
		sum = sum + term
	}
	return float32(sum)
}

// fuseByRule is the text of the document, for layers that fit.
func fuseByRule(a, b impl.Layer) impl.Layer {
	fused := dense(a.In, b.Out, make([]float32, b.Out*a.In), make([]float32, b.Out))
	for o := range b.Out {
		row := b.Weights[o*b.In : (o+1)*b.In]
		for i := range a.In {
			var column []float32
			for k := range a.Out {
				column = append(column, a.Weights[k*a.In+i])
			}
			fused.Weights[o*a.In+i] = wideDotByRule(row, column)
		}
		fused.Bias[o] = wideDotByRule(row, a.Bias) + b.Bias[o]
	}
	return fused
}

func TestFusedLayers(t *testing.T) {
	c := chance(630)
	lists := []func(int) []float32{c.smallList, c.mixedList, c.anyList, c.tinyList, c.namedList}
	for in := int64(1); in <= 8; in++ {
		for between := int64(1); between <= 8; between++ {
			for out := int64(1); out <= 8; out++ {
				for _, first := range lists {
					for _, second := range lists {
						a := dense(in, between, first(int(between*in)), first(int(between)))
						b := dense(between, out, second(int(out*between)), second(int(out)))
						got, ok := impl.FuseLinear(a, b)
						wantLayerOk(t, "FuseLinear", got, ok, fuseByRule(a, b))
						wantValue(t, "the fused layer is valid", impl.ValidLayer(got), true)
					}
				}
			}
		}
	}
}

func TestToldFusedLayers(t *testing.T) {
	const big = 16777216
	for _, told := range []struct {
		name    string
		a, b    impl.Layer
		weights []float32
		bias    []float32
	}{
		{"one number", dense(1, 1, []float32{2}, []float32{3}), dense(1, 1, []float32{5}, []float32{7}), []float32{10}, []float32{22}},
		{"two between", dense(1, 2, []float32{2, 3}, []float32{1, -1}), dense(2, 1, []float32{4, 5}, []float32{6}), []float32{23}, []float32{5}},
		{"one between", dense(2, 1, []float32{2, 3}, []float32{1}), dense(1, 2, []float32{10, 100}, []float32{0, 7}), []float32{20, 30, 200, 300}, []float32{10, 107}},
		{"rows and columns", dense(2, 2, []float32{1, 10, 100, 1000}, []float32{0, 0}), dense(2, 2, []float32{1, 2, 3, 4}, []float32{0, 0}), []float32{201, 2010, 403, 4030}, []float32{0, 0}},
		{"sums in 64 bits", dense(1, 3, []float32{big, 1, -big}, []float32{big, 1, -big}), dense(3, 1, []float32{1, 1, 1}, []float32{0}), []float32{1}, []float32{1}},
		{"sums in order", dense(1, 3, []float32{1e20, -1e20, 1}, []float32{1, 1e20, -1e20}), dense(3, 1, []float32{1, 1, 1}, []float32{0}), []float32{1}, []float32{0}},
		{"a bias behind the narrowing", dense(1, 2, []float32{0, 0}, []float32{big, 1}), dense(2, 1, []float32{1, 1}, []float32{1}), []float32{0}, []float32{big}},
		{"products out of 32 bits", dense(1, 2, []float32{greatest, greatest}, []float32{greatest, greatest}), dense(2, 1, []float32{2, -2}, []float32{0.5}), []float32{0}, []float32{0.5}},
		{"a sum out of range", dense(1, 1, []float32{greatest}, []float32{-greatest}), dense(1, 1, []float32{2}, []float32{0}), []float32{infinity}, []float32{-infinity}},
		{"a bias out of range", dense(1, 1, []float32{0}, []float32{greatest}), dense(1, 1, []float32{1}, []float32{greatest}), []float32{0}, []float32{infinity}},
		{"products of the least", dense(1, 1, []float32{least}, []float32{-least}), dense(1, 1, []float32{0.5}, []float32{0}), []float32{0}, []float32{0}},
		{"-0", dense(1, 1, []float32{minusZero}, []float32{minusZero}), dense(1, 1, []float32{1}, []float32{minusZero}), []float32{0}, []float32{0}},
		{"-0 by narrowing", dense(1, 1, []float32{-least}, []float32{-least}), dense(1, 1, []float32{0.5}, []float32{minusZero}), []float32{minusZero}, []float32{minusZero}},
		{"an infinity times zero", dense(1, 2, []float32{infinity, 1}, []float32{1, infinity}), dense(2, 1, []float32{0, 1}, []float32{0}), []float32{nan}, []float32{infinity}},
		{"not-a-numbers", dense(1, 2, []float32{1, nan}, []float32{1, 2}), dense(2, 2, []float32{1, 1, 1, 0}, []float32{nan, 0}), []float32{nan, nan}, []float32{nan, 1}},
	} {
		got, ok := impl.FuseLinear(told.a, told.b)
		wantLayerOk(t, "FuseLinear of "+told.name, got, ok, dense(told.a.In, told.b.Out, told.weights, told.bias))
	}
}

// The bits of a product of layers that have been computed in another language.
func TestToldBitsOfFusedLayers(t *testing.T) {
	a := dense(3, 2, []float32{0.1, -0.7, 1.3, 0.2, 0.4, -0.6}, []float32{0.05, -0.15})
	b := dense(2, 3, []float32{1.1, -0.9, 0.35, 2.7, -3.1, 0.01}, []float32{0.3, -0.02, 1.7})
	got, ok := impl.FuseLinear(a, b)
	wantLayerOk(t, "FuseLinear", got, ok, dense(3, 3,
		numbersOf([]uint32{0xbd8f5c28, 0xbf90a3d7, 0x3ffc28f6, 0x3f133333, 0x3f55c290, 0xbf951eb9, 0xbe9db22d, 0x400b22d0, 0xc08126e9}),
		numbersOf([]uint32{0x3efae148, 0xbed0a3d8, 0x3fc59169})))
}

func TestLayersThatDoNotFuse(t *testing.T) {
	c := chance(631)
	for first := int64(1); first <= 8; first++ {
		for second := int64(1); second <= 8; second++ {
			got, ok := impl.FuseLinear(c.smallLayer(impl.LayerDense, 3, first), c.smallLayer(impl.LayerDense, second, 3))
			wantValue(t, "FuseLinear: success", ok, first == second)
			wantValue(t, "FuseLinear without a layer", isZeroResult(got), first != second)
		}
	}
	valid := c.smallLayer(impl.LayerDense, 2, 2)
	for _, kind := range allKinds() {
		for _, size := range []int64{1, 2, 8} {
			other := c.smallLayer(kind, size, size)
			for _, pair := range [][2]impl.Layer{{valid, other}, {other, valid}, {other, other}} {
				got, ok := impl.FuseLinear(pair[0], pair[1])
				wantValue(t, "FuseLinear with another kind: success", ok, kind == impl.LayerDense && (size == 2 || pair[0].In == pair[1].In))
				wantValue(t, "FuseLinear with another kind", isZeroResult(got), !ok)
			}
		}
	}
	for name, broken := range brokenLayers() {
		size := max(1, min(broken.Out, 8))
		for _, other := range []impl.Layer{valid, c.smallLayer(impl.LayerDense, size, 2), c.smallLayer(impl.LayerDense, 2, max(1, min(broken.In, 8))), broken} {
			got, ok := impl.FuseLinear(broken, other)
			wantFailed(t, "FuseLinear of "+name, got, ok)
			got, ok = impl.FuseLinear(other, broken)
			wantFailed(t, "FuseLinear behind with "+name, got, ok)
		}
	}
}

func (c *chance) wholeLayer(in, out, most int64) impl.Layer {
	return layerOf(impl.LayerDense, in, out, func() float32 { return c.wholeNumber(most) })
}

// wholeNumber is an integer from -most to most, often one at the ends, and
// sometimes -0.
func (c *chance) wholeNumber(most int64) float32 {
	ends := []float32{float32(most), float32(-most), minusZero}
	if kind := c.below(12); kind < len(ends) {
		return ends[kind]
	}
	return float32(int64(c.below(int(2*most+1))) - most)
}

// Fused layers of small integers make numbers of small integers that are equal
// to those of both layers.
func TestFusedWholeLayers(t *testing.T) {
	c := chance(632)
	for range 4000 {
		in, between, out := int64(1+c.below(8)), int64(1+c.below(8)), int64(1+c.below(8))
		a, b := c.wholeLayer(in, between, 8), c.wholeLayer(between, out, 8)
		wantValue(t, "whole layers", impl.IsWhole(a, 8) && impl.IsWhole(b, 8), true)
		checkFusedWhole(t, a, b, layerOf(impl.LayerScale, in, in, func() float32 { return c.wholeNumber(8) }).Weights)
	}
	for _, x := range []float32{8, -8} {
		eight := func() float32 { return x }
		a, b := layerOf(impl.LayerDense, 8, 8, eight), layerOf(impl.LayerDense, 8, 8, eight)
		checkFusedWhole(t, a, b, filled(8, 8))
		checkFusedWhole(t, a, b, filled(8, -8))
	}
}

func checkFusedWhole(t *testing.T, a, b impl.Layer, x []float32) {
	t.Helper()
	stages, ok := impl.StagesOf(model(a, b), x)
	wantValue(t, "StagesOf: success", ok, true)
	fused, ok := impl.FuseLinear(a, b)
	wantValue(t, "FuseLinear: success", ok, true)
	made, ok := impl.RunLayer(fused, x)
	wantListOk(t, "a fused layer of whole ones", made, ok, stages[1])
	p, ok := impl.CompileModel(model(fused))
	wantValue(t, "CompileModel: success", ok, true)
	planned, ok := impl.RunPlan(p, x)
	wantNumbersOk(t, "the plan of a fused layer", planned, ok, made)
}

func otherMosts() []int64 {
	return []int64{0, -1, -8, 1001, 1002, 1 << 32, 1<<32 + 1, math.MaxInt64, math.MinInt64}
}

func TestWholeLayers(t *testing.T) {
	numbers := append(edges(), 3, -3, 8, -8, 9, -9, 8.5, -8.5, of(0x40ffffff), of(0x41000001), 999, 1000, -1000, 1001, -1001, 1000.5, -1000.5, of(0x4479ffff), of(0x447a0001), 1e10, 1e30, -1e30)
	for _, x := range numbers {
		for _, most := range []int64{1, 2, 3, 7, 8, 9, 999, 1000} {
			want := x == float32(math.Floor(float64(x))) && x <= float32(most) && x >= -float32(most)
			for _, l := range []impl.Layer{
				dense(1, 1, []float32{x}, []float32{1}), dense(1, 1, []float32{1}, []float32{x}), dense(2, 2, []float32{0, 1, -1, x}, []float32{0, 1}),
				dense(2, 2, []float32{x, 1, -1, 0}, []float32{1, 0}), dense(2, 3, filled(6, 1), []float32{0, 1, x}), dense(2, 3, filled(6, 1), []float32{x, 1, 0}),
				layer(impl.LayerScale, 2, 2, []float32{x, 1}, nil), layer(impl.LayerScale, 2, 2, []float32{1, x}, nil),
				layer(impl.LayerNorm, 1, 1, []float32{x}, []float32{1}), layer(impl.LayerNorm, 1, 1, []float32{1}, []float32{x}),
			} {
				wantValue(t, "IsWhole of "+textOfResult(l)+" for "+impl.Decimal(most), impl.IsWhole(l, most), want)
			}
		}
		for _, most := range otherMosts() {
			wantValue(t, "IsWhole for another most", impl.IsWhole(dense(1, 1, []float32{x}, []float32{0}), most), false)
		}
	}
}

// For each most, the numbers of just most are whole, and those of one more
// are not, of both signs.
func TestWholeForEachMost(t *testing.T) {
	for most := int64(-2); most <= 1003; most++ {
		isMost := 1 <= most && most <= 1000
		for _, sign := range []float32{1, -1} {
			x := sign * float32(most)
			wantValue(t, "IsWhole of just most", impl.IsWhole(dense(1, 1, []float32{x}, []float32{-x}), most), isMost)
			wantValue(t, "IsWhole of one more", impl.IsWhole(dense(1, 1, []float32{x + sign}, []float32{x}), most), false)
			wantValue(t, "IsWhole of one more as bias", impl.IsWhole(dense(1, 1, []float32{x}, []float32{x + sign}), most), false)
			wantValue(t, "IsWhole of a little more", impl.IsWhole(dense(1, 1, []float32{impl.NextUp(x)}, []float32{x}), most), false)
			wantValue(t, "IsWhole of a little less", impl.IsWhole(dense(1, 1, []float32{impl.NextDown(x)}, []float32{x}), most), false)
		}
		wantValue(t, "IsWhole of -0", impl.IsWhole(dense(1, 1, []float32{minusZero}, []float32{minusZero}), most), isMost)
		for _, kind := range []int64{impl.LayerRelu, impl.LayerTanh, impl.LayerSoftmax} {
			wantValue(t, "IsWhole of no numbers", impl.IsWhole(layer(kind, 8, 8, nil, nil), most), isMost)
		}
	}
}

func TestBrokenLayersAreNotWhole(t *testing.T) {
	for name, broken := range brokenLayers() {
		for _, most := range append(otherMosts(), 1, 8, 1000) {
			wantValue(t, "IsWhole of "+name, impl.IsWhole(broken, most), false)
		}
	}
}

// wantSplit requires a model to be split at a place, and joined again.
func wantSplit(t *testing.T, name string, m impl.Model, at int) {
	t.Helper()
	left, right, ok := impl.SplitModel(m, int64(at))
	wantModelOk(t, "the first layers of "+name, left, ok, model(m.Layers[:at]...))
	wantModelOk(t, "the other layers of "+name, right, ok, model(m.Layers[at:]...))
	wantValue(t, "the parts of "+name+" are valid", impl.ValidModel(left) && impl.ValidModel(right), true)
	joined, ok := impl.JoinModels(left, right)
	wantModelOk(t, "the joined parts of "+name, joined, ok, m)
}

// wantNoSplit requires a model not to be split at a place.
func wantNoSplit(t *testing.T, name string, m impl.Model, at int64) {
	t.Helper()
	left, right, ok := impl.SplitModel(m, at)
	wantFailed(t, "SplitModel of "+name, left, ok)
	wantFailed(t, "SplitModel of "+name, right, ok)
}

func TestSplitModels(t *testing.T) {
	c := chance(633)
	for name, m := range c.models() {
		count := len(m.Layers)
		for at := 1; at < count; at++ {
			for _, list := range []func(int) []float32{c.smallList, c.mixedList, c.anyList} {
				wantSplit(t, name, withNumbers(m, list), at)
			}
		}
		for _, at := range []int64{0, int64(count), int64(count) + 1, 6, 7, -1, -int64(count), 1<<32 + 1, 1 << 32, math.MaxInt64, math.MinInt64} {
			wantNoSplit(t, name, m, at)
		}
	}
	for name, broken := range brokenModels() {
		for at := int64(-1); at <= 8; at++ {
			wantNoSplit(t, name, broken, at)
		}
	}
}

// What both parts make one after another is what the whole model makes.
func TestPartsOfModelsMakeTheSame(t *testing.T) {
	c := chance(634)
	for name, m := range c.models() {
		for at := 1; at < len(m.Layers); at++ {
			left, right, _ := impl.SplitModel(m, int64(at))
			x := c.anyTensor(5, m.Layers[0].In)
			want, _ := impl.RunModel(m, x)
			between, ok := impl.RunModel(left, x)
			wantValue(t, "the first part of "+name, ok, true)
			got, ok := impl.RunModel(right, between)
			wantTensorOk(t, "both parts of "+name, got, ok, want)
			first, _ := impl.CompileModel(left)
			second, _ := impl.CompileModel(right)
			between, ok = impl.RunPlanRows(first, x)
			wantValue(t, "the plan of the first part of "+name, ok, true)
			got, ok = impl.RunPlanRows(second, between)
			wantTensorOk(t, "the plans of both parts of "+name, got, ok, want)
		}
	}
}

func TestJoinedModels(t *testing.T) {
	c := chance(635)
	models := c.models()
	joined := 0
	for name, a := range models {
		for other, b := range models {
			fits := a.Layers[len(a.Layers)-1].Out == b.Layers[0].In && len(a.Layers)+len(b.Layers) <= impl.MaxLayers
			got, ok := impl.JoinModels(a, b)
			if !fits {
				wantFailed(t, "JoinModels of "+name+" and "+other, got, ok)
				continue
			}
			joined++
			wantModelOk(t, "JoinModels of "+name+" and "+other, got, ok, model(slices.Concat(a.Layers, b.Layers)...))
			left, right, ok := impl.SplitModel(got, int64(len(a.Layers)))
			wantModelOk(t, "the first part of "+name+" and "+other, left, ok, a)
			wantModelOk(t, "the second part of "+name+" and "+other, right, ok, b)
		}
	}
	wantValue(t, "many joined models", joined > 20, true)
	relu := layer(impl.LayerRelu, 2, 2, nil, nil)
	for first := range 9 {
		for second := range 9 {
			got, ok := impl.JoinModels(model(slices.Repeat([]impl.Layer{relu}, first)...), model(slices.Repeat([]impl.Layer{relu}, second)...))
			wantValue(t, "JoinModels of so many layers", ok, first > 0 && second > 0 && first+second <= 6)
			if ok {
				wantValue(t, "JoinModels: length", len(got.Layers), first+second)
			} else {
				wantFailed(t, "JoinModels of so many layers", got, ok)
			}
		}
	}
}

func TestBrokenModelsAreNotJoined(t *testing.T) {
	for name, broken := range brokenModels() {
		others := []impl.Model{broken, model(layer(impl.LayerRelu, 1, 1, nil, nil)), model(layer(impl.LayerTanh, 2, 2, nil, nil))}
		if len(broken.Layers) > 0 {
			first, last := broken.Layers[0].In, broken.Layers[len(broken.Layers)-1].Out
			others = append(others, model(layer(impl.LayerRelu, first, first, nil, nil)), model(layer(impl.LayerRelu, last, last, nil, nil)))
		}
		for _, other := range others {
			got, ok := impl.JoinModels(broken, other)
			wantFailed(t, "JoinModels of "+name, got, ok)
			got, ok = impl.JoinModels(other, broken)
			wantFailed(t, "JoinModels behind with "+name, got, ok)
		}
	}
}
