package tests

import (
	"slices"
	"strings"
	"testing"

	"loop.example/g01157/impl"
)

// sorts has layers of two numbers by a letter each: dense, Relu, scale, ones
// (a scale layer of ones), tanh, softmax and norm layers.
func sorts() map[byte]impl.Layer {
	return map[byte]impl.Layer{
		'd': layer(impl.LayerDense, 2, 2, []float32{0.7, -1.3, -0.2, 0.9}, []float32{-0.25, 0.1}),
		'r': layer(impl.LayerRelu, 2, 2, nil, nil),
		's': layer(impl.LayerScale, 2, 2, []float32{-1.7, 0.3}, nil),
		'o': layer(impl.LayerScale, 2, 2, []float32{1, 1}, nil),
		't': layer(impl.LayerTanh, 2, 2, nil, nil),
		'm': layer(impl.LayerSoftmax, 2, 2, nil, nil),
		'n': layer(impl.LayerNorm, 2, 2, []float32{-2.1, 0.6}, []float32{0.3, -0.4}),
	}
}

func modelOf(letters string) impl.Model {
	var m impl.Model
	for i := range len(letters) {
		m.Layers = append(m.Layers, sorts()[letters[i]])
	}
	return m
}

// shortText has the steps of a plan of two numbers by their letters too.
func shortText(text string) string {
	short := strings.NewReplacer("dense", "d", "relu", "r", "scale", "s", "tanh", "t", "softmax", "m", "norm", "n", "2>2", "", " ", "")
	return short.Replace(text)
}

// Layers by their letters, and the steps that become of them, where * stands
// for Scales and + for Relu.
func TestToldPlans(t *testing.T) {
	for letters, want := range map[string]string{
		// Each sort alone, and scale layers of ones alone.
		"d": "d", "r": "r", "s": "s", "o": "none", "t": "t", "m": "m", "n": "n",
		"oo": "none", "ooo": "none", "oooooo": "none", "so": "s", "os": "s", "ososo": "ss", "ooooos": "s",
		// Relu behind each sort of step.
		"dr": "d+", "dsr": "d*r", "drr": "d+", "rr": "r", "mr": "m", "sr": "sr", "tr": "tr", "nr": "nr",
		"rrr": "r", "rrrrrr": "r", "drrrrr": "d+", "mrr": "m", "mrrrrr": "m", "dsrr": "d*r", "srr": "sr", "trr": "tr", "nrr": "nr",
		// The same with a scale layer of ones between, in front and behind.
		"or": "r", "dor": "d+", "dsor": "d*r", "dror": "d+", "ror": "r", "mor": "m", "sor": "sr", "tor": "tr", "nor": "nr",
		"oro": "r", "doro": "d+", "dosor": "d*r", "doror": "d+", "ororo": "r", "omoro": "m", "dooor": "d+", "roor": "r", "moor": "m",
		// Scale layers behind each sort of step.
		"ds": "d*", "dss": "d*s", "drs": "d+s", "rs": "rs", "ss": "ss", "ts": "ts", "ms": "ms", "ns": "ns",
		"dos": "d*", "doos": "d*", "dsos": "d*s", "dros": "d+s", "dors": "d+s", "ros": "rs", "sos": "ss", "tos": "ts", "mos": "ms", "nos": "ns",
		// Scale layers of ones behind each sort of step.
		"do": "d", "dso": "d*", "dro": "d+", "ro": "r", "to": "t", "mo": "m", "no": "n",
		// What follows a step that has taken something in.
		"dsrs": "d*rs", "drsr": "d+sr", "dssr": "d*sr", "dsrrs": "d*rs", "drsrs": "d+srs", "dsd": "d*d", "drd": "d+d", "dsds": "d*d*", "drdr": "d+d+", "dsdr": "d*d+", "drds": "d+d*",
		// Other layers take nothing in.
		"dt": "dt", "dm": "dm", "dn": "dn", "dd": "dd", "dtr": "dtr", "dmr": "dm", "dnr": "dnr", "dmrs": "dms", "dmsr": "dmsr", "tt": "tt", "mm": "mm", "nn": "nn",
		"rd": "rd", "rt": "rt", "rm": "rm", "rn": "rn", "rdr": "rd+", "rtr": "rtr", "rmr": "rm", "rnr": "rnr", "rsr": "rsr", "msr": "msr", "mtr": "mtr", "mdr": "md+", "mds": "md*",
		"dddddd": "dddddd", "tmtmtm": "tmtmtm", "drdrdr": "d+d+d+", "dsdsds": "d*d*d*", "drrrdr": "d+d+", "dsrdsr": "d*rd*r", "drmrdr": "d+md+", "nsrtsr": "nsrtsr",
	} {
		p, ok := impl.CompileModel(modelOf(letters))
		wantValue(t, "CompileModel of "+letters+": success", ok, true)
		text, ok := impl.PlanText(p)
		wantOk(t, "the plan of "+letters, shortText(text), ok, want)
	}
}

// letterLists has all lists of 1 to count letters of the sorts of layers.
func letterLists(count int) []string {
	list, from := []string{""}, 0
	for range count {
		to := len(list)
		for ; from < to; from++ {
			for _, letter := range "drsotmn" {
				list = append(list, list[from]+string(letter))
			}
		}
	}
	return list[1:]
}

// All models of these sorts of layers have the plan of the document, whose
// numbers are those of the layers, bit for bit.
func TestPlansOfAllModels(t *testing.T) {
	x := tensor(6, 2, 0.5, -0.7, -3, minusZero, nan, 1, infinity, -infinity, least, -least, -0.1, 2.5)
	for _, letters := range letterLists(impl.MaxLayers) {
		m := modelOf(letters)
		want := compileByRule(m)
		p, ok := impl.CompileModel(m)
		wantPlanOk(t, "CompileModel of "+letters, p, ok, want)
		plain, ok := impl.RunModel(m, x)
		wantValue(t, "RunModel of "+letters+": success", ok, true)
		made, ok := impl.RunPlanRows(p, x)
		wantTensorOk(t, "the plan of "+letters, made, ok, plain)
	}
}

// Each number of the layers comes to its place in the plan.
func TestNumbersOfPlans(t *testing.T) {
	a := layer(impl.LayerDense, 2, 3, []float32{1, 2, 3, 4, 5, 6}, []float32{7, 8, 9})
	scales := layer(impl.LayerScale, 3, 3, []float32{1, -1, 1}, nil)
	norm := layer(impl.LayerNorm, 3, 3, []float32{10, nan, minusZero}, []float32{infinity, 0, 11})
	relu := layer(impl.LayerRelu, 3, 3, nil, nil)
	b := layer(impl.LayerDense, 3, 1, []float32{12, 13, 14}, []float32{15})
	p, ok := impl.CompileModel(model(a, scales, norm, relu, b, layer(impl.LayerRelu, 1, 1, nil, nil)))
	wantPlanOk(t, "CompileModel", p, ok, plan(
		impl.PlanStep{Kind: impl.PlanDense, In: 2, Out: 3, Weights: []float32{1, 2, 3, 4, 5, 6}, Bias: []float32{7, 8, 9}, Scales: []float32{1, -1, 1}},
		impl.PlanStep{Kind: impl.PlanNorm, In: 3, Out: 3, Weights: []float32{10, nan, minusZero}, Bias: []float32{infinity, 0, 11}},
		impl.PlanStep{Kind: impl.PlanRelu, In: 3, Out: 3},
		impl.PlanStep{Kind: impl.PlanDense, In: 3, Out: 1, Weights: []float32{12, 13, 14}, Bias: []float32{15}, Relu: true},
	))
	c := chance(611)
	for name, m := range c.models() {
		for _, list := range []func(int) []float32{c.smallList, c.mixedList, c.anyList} {
			m := withNumbers(m, list)
			p, ok := impl.CompileModel(m)
			wantPlanOk(t, "CompileModel of "+name, p, ok, compileByRule(m))
			wantValue(t, "the plan of "+name+" is valid", impl.ValidPlan(p), true)
			wantValue(t, "the plan of "+name+" is one", isPlanByRule(p), true)
		}
	}
}

// A scale layer makes no step just if all of its weights are the number 1.
func TestScaleLayersOfOnes(t *testing.T) {
	others := append(edges(), of(0x3f800002), of(0x3f7ffffe))
	for size := int64(1); size <= 8; size++ {
		ones := layer(impl.LayerScale, size, size, filled(int(size), 1), nil)
		p, ok := impl.CompileModel(model(ones))
		wantPlanOk(t, "ones alone", p, ok, plan())
		p, ok = impl.CompileModel(model(slices.Repeat([]impl.Layer{ones}, impl.MaxLayers)...))
		wantPlanOk(t, "the most layers of ones", p, ok, plan())
		for place := range size {
			for _, x := range others {
				one := ones
				one.Weights = filled(int(size), 1)
				one.Weights[place] = x
				want := plan(stepFor(one))
				if same(x, 1) {
					want = plan()
				}
				p, ok := impl.CompileModel(model(one))
				wantPlanOk(t, "ones but one", p, ok, want)
				p, ok = impl.CompileModel(model(ones, one, ones))
				wantPlanOk(t, "ones but one between ones", p, ok, want)
			}
		}
		for _, x := range others {
			all := layer(impl.LayerScale, size, size, filled(int(size), x), nil)
			want := plan(stepFor(all))
			if same(x, 1) {
				want = plan()
			}
			p, ok := impl.CompileModel(model(all))
			wantPlanOk(t, "a scale layer of equal weights", p, ok, want)
		}
	}
}

// Only scale layers make no step for their ones, and only their weights count.
func TestOnesOfOtherLayers(t *testing.T) {
	one := func() float32 { return 1 }
	for _, kind := range allKinds() {
		if kind != impl.LayerScale {
			l := layerOf(kind, 3, 3, one)
			p, ok := impl.CompileModel(model(l))
			wantPlanOk(t, "other layers of ones", p, ok, plan(stepFor(l)))
		}
	}
	dense := layerOf(impl.LayerDense, 3, 2, one)
	p, ok := impl.CompileModel(model(dense, layer(impl.LayerScale, 2, 2, []float32{1, -1}, nil)))
	wantPlanOk(t, "one and -1 behind a dense layer", p, ok, plan(withScales(stepFor(dense), 1, -1)))
	p, ok = impl.CompileModel(model(dense, layer(impl.LayerScale, 2, 2, []float32{1, 1}, nil)))
	wantPlanOk(t, "ones behind a dense layer", p, ok, plan(stepFor(dense)))
}

// Scales of any numbers are kept, also zeros, infinities and not-a-numbers.
func TestScalesOfAnyNumbers(t *testing.T) {
	c := chance(612)
	for size := int64(1); size <= 8; size++ {
		dense := c.smallLayer(impl.LayerDense, 9-size, size)
		for _, x := range edges() {
			scale := layer(impl.LayerScale, size, size, filled(int(size), x), nil)
			m := model(dense, scale)
			p, ok := impl.CompileModel(m)
			wantPlanOk(t, "a scale layer behind a dense one", p, ok, compileByRule(m))
			for _, x := range c.inputs(int(9 - size)) {
				stages, _ := impl.StagesOf(m, x)
				made, ok := impl.RunPlan(p, x)
				wantNumbersOk(t, "Scales", made, ok, stages[1])
			}
		}
	}
}

func TestBrokenModelsHaveNoPlan(t *testing.T) {
	for name, broken := range brokenModels() {
		p, ok := impl.CompileModel(broken)
		wantFailed(t, "CompileModel of "+name, p, ok)
	}
	relu := layer(impl.LayerRelu, 1, 1, nil, nil)
	ones := layer(impl.LayerScale, 1, 1, []float32{1}, nil)
	for count := 0; count <= 9; count++ {
		for _, l := range []impl.Layer{relu, ones} {
			_, ok := impl.CompileModel(model(slices.Repeat([]impl.Layer{l}, count)...))
			wantValue(t, "CompileModel of so many layers", ok, 1 <= count && count <= impl.MaxLayers)
		}
	}
	p, ok := impl.CompileModel(model(ones, layer(impl.LayerScale, 2, 2, []float32{1, 1}, nil)))
	wantFailed(t, "CompileModel of ones that do not fit", p, ok)
}
