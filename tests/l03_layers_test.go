package tests

import (
	"slices"
	"testing"

	"loop.example/g01157/impl"
)

func TestValidLayers(t *testing.T) {
	for kind := int64(-1); kind <= 6; kind++ {
		for in := int64(-1); in <= 10; in++ {
			for out := int64(-1); out <= 10; out++ {
				valid := 0 <= kind && kind <= 5 && 1 <= in && in <= 8 && 1 <= out && out <= 8 && (kind == impl.LayerDense || in == out)
				weights, bias := sizesByRule(kind, in, out)
				for _, more := range [][2]int64{{0, 0}, {1, 0}, {-1, 0}, {0, 1}, {0, -1}, {1, -1}, {-1, 1}} {
					if weights+more[0] < 0 || bias+more[1] < 0 {
						continue
					}
					l := layer(kind, in, out, filled(int(weights+more[0]), nan), filled(int(bias+more[1]), infinity))
					wantValue(t, "ValidLayer "+textOfResult(l), impl.ValidLayer(l), valid && more == [2]int64{})
				}
			}
		}
	}
	for name, broken := range brokenLayers() {
		wantValue(t, "ValidLayer of "+name, impl.ValidLayer(broken), false)
	}
}

// sumByRule adds up in order, beginning with +0.
func sumByRule(list []float32) float32 {
	var sum float32
	for _, x := range list {
		sum = float32(sum + x)
	}
	return sum
}

func dotByRule(a, b []float32) float32 {
	var sum float32
	for i := range a {
		term := float32(a[i] * b[i])
		sum = float32(sum + term)
	}
	return sum
}

func softmaxByRule(x []float32) []float32 {
	m := x[0]
	for _, number := range x {
		if number > m {
			m = number
		}
	}
	e := make([]float32, len(x))
	for i := range x {
		e[i] = impl.ExpNumber(float32(x[i] - m))
	}
	s := sumByRule(e)
	for i := range e {
		e[i] = float32(e[i] / s)
	}
	return e
}

func normByRule(l impl.Layer, x []float32) []float32 {
	in := float32(l.In)
	a := float32(sumByRule(x) / in)
	d := make([]float32, len(x))
	for i := range x {
		d[i] = float32(x[i] - a)
	}
	v := float32(dotByRule(d, d) / in)
	r := impl.RootNumber(float32(v + 0.0009765625))
	for i := range d {
		quotient := float32(d[i] / r)
		product := float32(quotient * l.Weights[i])
		d[i] = float32(product + l.Bias[i])
	}
	return d
}

// layerByRule makes numbers by the text of the document.
func layerByRule(l impl.Layer, x []float32) []float32 {
	switch l.Kind {
	case impl.LayerSoftmax:
		return softmaxByRule(x)
	case impl.LayerNorm:
		return normByRule(l, x)
	}
	made := make([]float32, l.Out)
	for i := range made {
		switch l.Kind {
		case impl.LayerDense:
			made[i] = dotByRule(l.Weights[i*int(l.In):(i+1)*int(l.In)], x) + l.Bias[i]
		case impl.LayerRelu:
			made[i] = reluByRule(x[i])
		case impl.LayerScale:
			made[i] = l.Weights[i] * x[i]
		case impl.LayerTanh:
			made[i] = impl.TanhNumber(x[i])
		}
	}
	return made
}

func TestLayersOfEachKindAndSize(t *testing.T) {
	c := chance(60)
	for _, kind := range allKinds() {
		for in := int64(1); in <= 8; in++ {
			for out := int64(1); out <= 8; out++ {
				for _, l := range []impl.Layer{c.smallLayer(kind, in, out), c.anyLayer(kind, in, out)} {
					for _, x := range [][]float32{c.smallList(int(in)), c.anyTensor(1, in).Data} {
						got, ok := impl.RunLayer(l, x)
						wantNumbersOk(t, "RunLayer of kind "+impl.Decimal(kind), got, ok, layerByRule(l, x))
					}
				}
			}
		}
	}
}

func TestDenseLayers(t *testing.T) {
	const big = 16777216
	for _, c := range []struct {
		name          string
		weights, bias []float32
		x, want       []float32
	}{
		{"one number", []float32{2}, []float32{1}, []float32{3}, []float32{7}},
		{"two of one", []float32{2, -3}, []float32{1, 0.5}, []float32{3}, []float32{7, -8.5}},
		{"weights row by row", []float32{1, 10, 100, 1000}, []float32{0, 0}, []float32{1, 2}, []float32{21, 2100}},
		{"-0 alone", []float32{1}, []float32{minusZero}, []float32{minusZero}, []float32{0}},
		{"a bias that is lost", []float32{big}, []float32{1}, []float32{1}, []float32{big}},
		{"a bias behind the sum", []float32{1, 1}, []float32{big}, []float32{1, 1}, []float32{big + 2}},
		{"a bias that is not in front", []float32{1, 1, -1}, []float32{-big}, []float32{big, 1, 1}, []float32{-1}},
		{"big first", []float32{big, 1, 1}, []float32{0}, []float32{1, 1, 1}, []float32{big}},
		{"big last", []float32{1, 1, big}, []float32{0}, []float32{1, 1, 1}, []float32{big + 2}},
		{"over the greatest between", []float32{2, -2}, []float32{0}, []float32{greatest, greatest}, []float32{nan}},
		{"zero times infinity", []float32{0}, []float32{0}, []float32{infinity}, []float32{nan}},
		{"an infinity as bias", []float32{1}, []float32{-infinity}, []float32{greatest}, []float32{-infinity}},
		{"both infinities", []float32{1}, []float32{-infinity}, []float32{infinity}, []float32{nan}},
		{"a not-a-number at one", []float32{1, nan}, []float32{0, 0}, []float32{1}, []float32{1, nan}},
		{"a product that is rounded before the bias", []float32{of(0x3f800001)}, []float32{of(0xbf800002)}, []float32{of(0x3f800001)}, []float32{0}},
		{"told bits", []float32{0.2, 0.4, -0.6, 1.1, -0.9, 0.35}, []float32{0.05, -0.15}, []float32{0.1, -0.7, 1.3}, []float32{of(0xbf7d70a3), of(0x3f85c28f)}},
	} {
		l := layer(impl.LayerDense, int64(len(c.x)), int64(len(c.bias)), c.weights, c.bias)
		got, ok := impl.RunLayer(l, c.x)
		wantNumbersOk(t, "a dense layer with "+c.name, got, ok, c.want)
	}
}

func TestDenseLayersAreDots(t *testing.T) {
	for _, c := range dotCases() {
		if len(c.a) == 0 {
			continue
		}
		got, ok := impl.RunLayer(layer(impl.LayerDense, int64(len(c.a)), 1, c.a, []float32{0}), c.b)
		wantNumbersOk(t, "a dense layer of "+c.name, got, ok, []float32{c.dot})
	}
}

func TestReluLayers(t *testing.T) {
	x := []float32{1, -2, minusZero, 0, least, -least, infinity, -infinity}
	got, ok := impl.RunLayer(layer(impl.LayerRelu, 8, 8, nil, nil), x)
	wantNumbersOk(t, "a Relu layer", got, ok, []float32{1, 0, 0, 0, least, 0, infinity, 0})
	for _, number := range edges() {
		got, ok = impl.RunLayer(layer(impl.LayerRelu, 1, 1, nil, []float32{}), []float32{number})
		wantNumbersOk(t, "a Relu layer of one number", got, ok, []float32{reluByRule(number)})
	}
}

func TestScaleLayers(t *testing.T) {
	for _, weight := range edges() {
		for _, number := range edges() {
			got, ok := impl.RunLayer(layer(impl.LayerScale, 2, 2, []float32{weight, 2}, nil), []float32{number, -3})
			wantNumbersOk(t, "a scale layer", got, ok, []float32{times(weight, number), -6})
		}
	}
}

func TestTanhLayers(t *testing.T) {
	x := []float32{0.5, -0.5, 1, -3, 0.1, -0.1, 9, 19}
	got, ok := impl.RunLayer(layer(impl.LayerTanh, 8, 8, nil, nil), x)
	wantNumbersOk(t, "a Tanh layer", got, ok, []float32{
		of(0x3eec9a9f), of(0xbeec9a9f), of(0x3f42f7d6), of(0xbf7ebbe9), of(0x3dcc1ebc), of(0xbdcc1ebc), of(0x3f7fffff), 1,
	})
	for _, number := range edges() {
		got, ok = impl.RunLayer(layer(impl.LayerTanh, 1, 1, nil, nil), []float32{number})
		wantNumbersOk(t, "a Tanh layer of one number", got, ok, []float32{impl.TanhNumber(number)})
	}
}

// softmaxCases has scores and the shares that they become.
func softmaxCases() [][2][]float32 {
	third := of(0x3eaaaaab)
	return [][2][]float32{
		{{7}, {1}}, {{minusZero}, {1}}, {{-greatest}, {1}},
		{{3, 3}, {0.5, 0.5}}, {{0, minusZero}, {0.5, 0.5}}, {{minusZero, 0}, {0.5, 0.5}}, {{greatest, greatest}, {0.5, 0.5}},
		{{7, 7, 7}, {third, third, third}}, {filled(7, -1), filled(7, of(0x3e124925))}, {filled(8, 2), filled(8, 0.125)},
		{{greatest, -greatest}, {1, 0}}, {{0, 300, 0}, {0, 1, 0}}, {{-1000, -1000}, {0.5, 0.5}}, {{1, 202}, {0, 1}},
		{{1, 2, 3}, {of(0x3db861f3), of(0x3e7a9a1a), of(0x3f2a4d3b)}},
		{{-100, -100.5, -101}, {of(0x3f01a8b3), of(0x3e9d48c8), of(0x3e3ecba6)}},
		{{1000, 999, 0, 1000}, {of(0x3ed83a2c), of(0x3e1f1753), 0, of(0x3ed83a2c)}},
		{{0.5, -1.25, 3, 2.75, -7, 3, 0.125, 1}, {
			of(0x3cdb4105), of(0x3b98670c), of(0x3ea6f0f7), of(0x3e820395), of(0x37785a49), of(0x3ea6f0f7), of(0x3c96b0e0), of(0x3d34be8e),
		}},
		{{infinity}, {nan}}, {{-infinity}, {nan}}, {{nan}, {nan}},
		{{infinity, 1}, {nan, nan}}, {{1, infinity}, {nan, nan}}, {{infinity, -infinity, 5}, {nan, nan, nan}}, {{infinity, infinity}, {nan, nan}},
		{{-infinity, 1}, {0, 1}}, {{1, -infinity}, {1, 0}}, {{-infinity, 4, 4}, {0, 0.5, 0.5}}, {{-infinity, -infinity}, {nan, nan}},
		{{nan, 1, 2}, {nan, nan, nan}}, {{1, nan, 2}, {nan, nan, nan}}, {{1, 2, nan}, {nan, nan, nan}}, {{-infinity, of(0xff800001)}, {nan, nan}},
	}
}

func TestSoftmaxLayers(t *testing.T) {
	for _, c := range softmaxCases() {
		size := int64(len(c[0]))
		got, ok := impl.RunLayer(layer(impl.LayerSoftmax, size, size, nil, nil), c[0])
		wantNumbersOk(t, "softmax of "+textOfResult(c[0]), got, ok, c[1])
	}
}

func TestSoftmaxOfANotANumberAtEachPlace(t *testing.T) {
	c := chance(61)
	for size := range 8 {
		for place := range size + 1 {
			x := c.smallList(size + 1)
			x[place] = of(0xffc00000 + uint32(place))
			got, ok := impl.RunLayer(layer(impl.LayerSoftmax, int64(size)+1, int64(size)+1, nil, nil), x)
			wantNumbersOk(t, "softmax of a not-a-number", got, ok, filled(size+1, nan))
		}
	}
}

func TestSoftmaxSumsInOrder(t *testing.T) {
	// It is less than half of what 1 lacks to its next number, and lost alone.
	little := impl.ExpNumber(-17)
	for _, x := range [][]float32{{0, -17, -17, -17, -17}, {-17, -17, -17, -17, 0}} {
		e := filled(5, little)
		e[slices.Index(x, 0)] = 1
		sum := sumByRule(e)
		got, ok := impl.RunLayer(layer(impl.LayerSoftmax, 5, 5, nil, nil), x)
		wantValue(t, "softmax: success", ok, true)
		for i := range got {
			wantNumber(t, "softmax with little shares", got[i], e[i]/sum)
		}
	}
	wantValue(t, "the order matters", sumByRule([]float32{1, little, little, little, little}) == sumByRule([]float32{little, little, little, little, 1}), false)
}

func TestNormLayers(t *testing.T) {
	for _, c := range []struct {
		name             string
		x, weights, bias []float32
		want             []float32
	}{
		{"one number", []float32{5}, []float32{3}, []float32{0.5}, []float32{0.5}},
		{"one infinity", []float32{infinity}, []float32{3}, []float32{0.5}, []float32{nan}},
		{"one not-a-number", []float32{nan}, []float32{3}, []float32{0.5}, []float32{nan}},
		{"equal numbers", []float32{2, 2, 2}, []float32{1, -1, infinity}, []float32{0.25, minusZero, 1}, []float32{0.25, minusZero, nan}},
		{"equal numbers that are great", filled(2, 1e30), filled(2, 1), filled(2, 7), filled(2, 7)},
		{"a sum over the greatest", filled(2, greatest), filled(2, 1), filled(2, 7), filled(2, nan)},
		{"a square over the greatest", []float32{1e30, -1e30}, filled(2, 1), filled(2, 7), filled(2, 7)},
		{"both infinities", []float32{infinity, -infinity}, filled(2, 1), filled(2, 1), filled(2, nan)},
		{"a not-a-number", []float32{1, 2, nan}, filled(3, 1), filled(3, 1), filled(3, nan)},
		{"a not-a-number as weight", []float32{1, 1}, []float32{1, nan}, []float32{2, 2}, []float32{2, nan}},
		{"told bits", []float32{1, 2, 3, 4}, filled(4, 1), filled(4, 0), []float32{of(0xbfaba9b9), of(0xbee4e24b), of(0x3ee4e24b), of(0x3faba9b9)}},
		{"little gaps", []float32{0.001, 0.002}, filled(2, 1), filled(2, 0), []float32{of(0xbc830e23), of(0x3c830e25)}},
		{"weights and bias", []float32{0.1, -0.25, 4}, []float32{2, -0.3, 0.7}, []float32{0.5, 0.1, -1}, []float32{of(0xbf3a7c40), of(0x3ead735e), of(0xbc537ac0)}},
	} {
		size := int64(len(c.x))
		got, ok := impl.RunLayer(layer(impl.LayerNorm, size, size, c.weights, c.bias), c.x)
		wantNumbersOk(t, "a norm of "+c.name, got, ok, c.want)
	}
}

func TestLayersOfOtherLengths(t *testing.T) {
	c := chance(62)
	for _, kind := range allKinds() {
		for in := int64(1); in <= 8; in++ {
			l := c.smallLayer(kind, in, 3)
			for length := range 20 {
				got, ok := impl.RunLayer(l, filled(length, 1))
				if int64(length) == in {
					wantValue(t, "RunLayer: success", ok, true)
					wantValue(t, "RunLayer: length", int64(len(got)), l.Out)
				} else {
					wantFailed(t, "RunLayer with a list of another length", got, ok)
				}
			}
		}
	}
	for name, broken := range brokenLayers() {
		for length := range 10 {
			got, ok := impl.RunLayer(broken, filled(length, 1))
			wantFailed(t, "RunLayer of "+name, got, ok)
		}
	}
}
