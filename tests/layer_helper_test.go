package tests

import (
	"math"
	"slices"

	"loop.example/g01157/impl"
)

func layer(kind, in, out int64, weights, bias []float32) impl.Layer {
	return impl.Layer{Kind: kind, In: in, Out: out, Weights: weights, Bias: bias}
}

func model(layers ...impl.Layer) impl.Model { return impl.Model{Layers: layers} }

func allKinds() []int64 { return []int64{0, 1, 2, 3, 4, 5} }

// sizesByRule has how many Weights and how many numbers of Bias the table of
// the document gives to a layer.
func sizesByRule(kind, in, out int64) (weights, bias int64) {
	switch kind {
	case impl.LayerDense:
		return out * in, out
	case impl.LayerScale:
		return in, 0
	case impl.LayerNorm:
		return in, in
	}
	return 0, 0
}

// outFor returns out for dense layers, and in for the others, whose Out is
// their In.
func outFor(kind, in, out int64) int64 {
	if kind == impl.LayerDense {
		return out
	}
	return in
}

// layerOf returns a layer whose parameters number makes.
func layerOf(kind, in, out int64, number func() float32) impl.Layer {
	out = outFor(kind, in, out)
	weights, bias := sizesByRule(kind, in, out)
	made := layer(kind, in, out, make([]float32, weights), make([]float32, bias))
	for _, list := range [][]float32{made.Weights, made.Bias} {
		for i := range list {
			list[i] = number()
		}
	}
	return made
}

func (c *chance) smallLayer(kind, in, out int64) impl.Layer { return layerOf(kind, in, out, c.small) }

// anyLayer has the numbers of edges and those of any bits as parameters.
func (c *chance) anyLayer(kind, in, out int64) impl.Layer {
	return layerOf(kind, in, out, func() float32 { return c.anyTensor(1, 1).Data[0] })
}

// models has valid models that small or any parameters make: of each kind of
// layers, of one layer and of MaxLayers, of one number and of MaxSize.
func (c *chance) models() map[string]impl.Model {
	list := map[string]impl.Model{
		"a net":       model(c.smallLayer(impl.LayerDense, 3, 5), c.smallLayer(impl.LayerRelu, 5, 5), c.smallLayer(impl.LayerDense, 5, 2), c.smallLayer(impl.LayerSoftmax, 2, 2)),
		"the most":    model(c.smallLayer(0, 8, 8), c.smallLayer(0, 8, 8), c.smallLayer(0, 8, 8), c.smallLayer(0, 8, 8), c.smallLayer(0, 8, 8), c.smallLayer(0, 8, 8)),
		"each kind":   model(c.smallLayer(0, 2, 4), c.smallLayer(5, 4, 4), c.smallLayer(1, 4, 4), c.smallLayer(2, 4, 4), c.smallLayer(3, 4, 4), c.smallLayer(4, 4, 4)),
		"one number":  model(c.smallLayer(0, 1, 1), c.smallLayer(5, 1, 1), c.smallLayer(1, 1, 1), c.smallLayer(2, 1, 1), c.smallLayer(3, 1, 1), c.smallLayer(4, 1, 1)),
		"any numbers": model(c.anyLayer(0, 4, 3), c.anyLayer(2, 3, 3), c.anyLayer(5, 3, 3)),
		"no params":   model(c.smallLayer(1, 6, 6), c.smallLayer(3, 6, 6), c.smallLayer(4, 6, 6)),
	}
	for _, kind := range allKinds() {
		for _, in := range []int64{1, 2, 8} {
			list["kind "+impl.Decimal(kind)+" alone of "+impl.Decimal(in)] = model(c.smallLayer(kind, in, 9-in))
		}
	}
	return list
}

// roomyLayer returns a copy of l with unused capacity behind its parameters.
func roomyLayer(l impl.Layer) impl.Layer {
	l.Weights, l.Bias = roomyList(l.Weights), roomyList(l.Bias)
	return l
}

func roomyList(list []float32) []float32 { return roomy(impl.Tensor{Data: list}).Data }

// roomyModel returns a copy of m with unused capacity everywhere.
func roomyModel(m impl.Model) impl.Model {
	layers := make([]impl.Layer, 0, 12)
	for _, l := range m.Layers {
		layers = append(layers, roomyLayer(l))
	}
	for i := range layers[len(layers):cap(layers)] {
		layers[:cap(layers)][len(layers)+i] = layer(4, 3, 3, nil, nil)
	}
	return impl.Model{Layers: layers}
}

// modelText shows all of a model, with its unused capacity.
func modelText(m impl.Model) string {
	text := ""
	for _, l := range m.Layers[:cap(m.Layers)] {
		text += textOfResult(l, rawBits(l.Weights), rawBits(l.Bias))
	}
	return text
}

// brokenLayers has layers that differ from valid ones in one way each.
func brokenLayers() map[string]impl.Layer {
	list := map[string]impl.Layer{
		"a dense one without parameters": layer(0, 2, 2, nil, nil),
		"a weight too few":               layer(0, 2, 1, []float32{1}, []float32{1}),
		"a weight too many":              layer(0, 2, 1, []float32{1, 2, 3}, []float32{1}),
		"a bias too few":                 layer(0, 2, 1, []float32{1, 2}, nil),
		"a bias too many":                layer(0, 2, 1, []float32{1, 2}, []float32{1, 2}),
		"weights and bias exchanged":     layer(0, 2, 1, []float32{1}, []float32{1, 2}),
		"a bias at a scale":              layer(2, 1, 1, []float32{1}, []float32{1}),
		"a norm without bias":            layer(5, 2, 2, []float32{1, 2}, nil),
		"a norm without weights":         layer(5, 2, 2, nil, []float32{1, 2}),
		"a kind before the first":        layer(-1, 1, 1, nil, nil),
		"a kind behind the last":         layer(6, 1, 1, nil, nil),
		"the greatest kind":              layer(math.MaxInt64, 1, 1, []float32{1}, []float32{1}),
		"the least kind":                 layer(math.MinInt64, 1, 1, []float32{1}, []float32{1}),
		"sizes that overflow":            layer(0, 1<<32, 1<<32, nil, nil),
		"the zero struct":                {},
	}
	for _, kind := range allKinds() {
		name := " of kind " + impl.Decimal(kind)
		for _, size := range []int64{0, -1, 9, math.MaxInt64, math.MinInt64} {
			weights, bias := sizesByRule(kind, max(0, min(size, 9)), max(0, min(size, 9)))
			list["both sizes are "+impl.Decimal(size)+name] = layer(kind, size, size, filled(int(weights), 1), filled(int(bias), 1))
		}
		valid := layerOf(kind, 1, 1, func() float32 { return 1 })
		for what, sizes := range map[string][2]int64{"no In": {0, 1}, "no Out": {1, 0}, "negative": {-1, -1}, "much In": {9, 1}, "much Out": {1, 9}} {
			list[what+name] = layer(kind, sizes[0], sizes[1], valid.Weights, valid.Bias)
		}
		if kind != impl.LayerDense {
			list["other sizes"+name] = layer(kind, 1, 2, valid.Weights, valid.Bias)
			list["other sizes around"+name] = layer(kind, 2, 1, valid.Weights, valid.Bias)
			list["a weight more"+name] = layer(kind, 1, 1, append(slices.Clone(valid.Weights), 1), valid.Bias)
			list["a bias more"+name] = layer(kind, 1, 1, valid.Weights, append(slices.Clone(valid.Bias), 1))
		}
	}
	return list
}

// brokenModels has models that differ from valid ones in one way each.
func brokenModels() map[string]impl.Model {
	relu := layer(impl.LayerRelu, 1, 1, nil, nil)
	two, three := layer(impl.LayerTanh, 2, 2, nil, nil), layer(impl.LayerTanh, 3, 3, nil, nil)
	list := map[string]impl.Model{
		"no layers":                       {},
		"an empty list of layers":         {Layers: []impl.Layer{}},
		"a layer too many":                model(relu, relu, relu, relu, relu, relu, relu),
		"layers that do not fit":          model(two, three),
		"layers that do not fit around":   model(three, two),
		"last layers that do not fit":     model(two, two, two, two, two, three),
		"a dense layer that does not fit": model(layer(0, 2, 1, []float32{1, 2}, []float32{0}), two),
		"one in between":                  model(two, layer(0, 3, 2, filled(6, 1), filled(2, 0)), two),
	}
	for name, broken := range brokenLayers() {
		list["alone: "+name] = model(broken)
		fitting := layer(impl.LayerRelu, broken.In, broken.In, nil, nil)
		list["behind one: "+name] = model(fitting, broken)
		list["before one: "+name] = model(broken, layer(impl.LayerRelu, broken.Out, broken.Out, nil, nil))
	}
	return list
}
