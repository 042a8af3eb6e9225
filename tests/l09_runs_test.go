package tests

import (
	"math"
	"testing"

	"loop.example/g01157/impl"
)

// checkPlan holds what a plan makes of some lists, alone and as rows, against
// the text of the document.
func checkPlan(t *testing.T, name string, p impl.Plan, lists [][]float32) {
	t.Helper()
	for from := 0; from < len(lists); from += impl.MaxSide {
		columns := len(lists[from])
		x, want := tensor(0, int64(columns)), impl.Tensor{}
		for _, list := range lists[from:min(from+impl.MaxSide, len(lists))] {
			made := runByRule(p, list)
			got, ok := impl.RunPlan(p, list)
			wantNumbersOk(t, "RunPlan of "+name, got, ok, made)
			x.Rows, x.Data = x.Rows+1, append(x.Data, list...)
			want = tensor(x.Rows, int64(len(made)), append(want.Data, made...)...)
		}
		if columns > 0 {
			rows, ok := impl.RunPlanRows(p, x)
			wantTensorOk(t, "RunPlanRows of "+name, rows, ok, want)
		}
	}
}

func TestRunsOfPlans(t *testing.T) {
	c := chance(620)
	for name, p := range c.plans() {
		if len(p.Steps) > 0 {
			checkPlan(t, name, p, c.inputs(int(p.Steps[0].In)))
		}
	}
}

func TestRunsOfStepsOfEachKindAndSize(t *testing.T) {
	c := chance(621)
	for _, kind := range allKinds() {
		for in := int64(1); in <= 8; in++ {
			for out := int64(1); out <= 8; out++ {
				for _, list := range []func(int) []float32{c.smallList, c.mixedList, c.tinyList, c.namedList} {
					for _, s := range stepsOf(kind, in, out, list) {
						checkPlan(t, "a step of kind "+impl.Decimal(kind), plan(s), c.inputs(int(in)))
					}
				}
			}
		}
	}
}

func TestToldRuns(t *testing.T) {
	const big = 16777216
	dense := stepFor(layer(impl.LayerDense, 2, 2, []float32{1, 2, -3, 4}, []float32{0.5, -1}))
	single := func(weight, bias float32) impl.PlanStep {
		return stepFor(layer(impl.LayerDense, 1, 1, []float32{weight}, []float32{bias}))
	}
	for _, told := range []struct {
		name    string
		plan    impl.Plan
		x, want []float32
	}{
		{"a dense step", plan(dense), []float32{3, 4}, []float32{11.5, 6}},
		{"one with Relu", plan(withRelu(dense)), []float32{3, -4}, []float32{0, 0}},
		{"one with Relu that keeps one", plan(withRelu(dense)), []float32{3, 1}, []float32{5.5, 0}},
		{"one with Scales", plan(withScales(dense, 2, -0.5)), []float32{3, 4}, []float32{23, -3}},
		{"one with Scales of ones", plan(withScales(dense, 1, 1)), []float32{3, 4}, []float32{11.5, 6}},
		{"Relu of zeros", plan(withRelu(single(1, minusZero))), []float32{minusZero}, []float32{0}},
		{"Relu of a not-a-number", plan(withRelu(single(1, nan))), []float32{1}, []float32{nan}},
		{"Relu of infinities", plan(withRelu(dense)), []float32{infinity, 0}, []float32{infinity, 0}},
		{"Scales behind the bias", plan(withScales(single(1, 1), 3)), []float32{2}, []float32{9}},
		{"a sum that is rounded before the Scales", plan(withScales(single(1, 1), 0.5)), []float32{big}, []float32{big / 2}},
		{"Scales of zeros", plan(withScales(single(1, 0), minusZero)), []float32{2}, []float32{minusZero}},
		{"Scales of zeros of an infinity", plan(withScales(single(1, 0), 0)), []float32{infinity}, []float32{nan}},
		{"Scales over the greatest", plan(withScales(single(1, 0), 2)), []float32{greatest}, []float32{infinity}},
		{"Scales of the least", plan(withScales(single(1, 0), 0.5)), []float32{least}, []float32{0}},
		{"Scales and a step of Relu", plan(withScales(dense, 1, -1), stepFor(layer(impl.LayerRelu, 2, 2, nil, nil))), []float32{3, 4}, []float32{11.5, 0}},
		{"Relu, and then Scales", plan(withRelu(single(-1, 0)), withScales(single(1, 1), -2)), []float32{3}, []float32{-2}},
		{"Relu behind Relu", plan(withRelu(single(1, 0)), stepFor(layer(impl.LayerRelu, 1, 1, nil, nil))), []float32{-3}, []float32{0}},
		{"one number and eight", plan(stepFor(layer(impl.LayerDense, 1, 8, []float32{1, 2, 3, 4, 5, 6, 7, 8}, filled(8, 1))), withRelu(stepFor(layer(impl.LayerDense, 8, 1, filled(8, 1), []float32{-1})))), []float32{0.5}, []float32{25}},
		{"eight numbers and one, and two of it", plan(stepFor(layer(impl.LayerDense, 8, 1, filled(8, 1), []float32{0})), stepFor(layer(impl.LayerDense, 1, 2, []float32{1, -1}, []float32{0, 0}))), filled(8, 2), []float32{16, -16}},
	} {
		got, ok := impl.RunPlan(told.plan, told.x)
		wantNumbersOk(t, "a plan of "+told.name, got, ok, told.want)
		rows, ok := impl.RunPlanRows(told.plan, tensor(1, int64(len(told.x)), told.x...))
		wantTensorOk(t, "rows of "+told.name, rows, ok, tensor(1, int64(len(told.want)), told.want...))
	}
}

// A plan without steps makes x of x: of 0 to MaxSize numbers.
func TestPlansWithoutSteps(t *testing.T) {
	c := chance(622)
	ones, _ := impl.CompileModel(model(layer(impl.LayerScale, 3, 3, filled(3, 1), nil)))
	for name, p := range map[string]impl.Plan{"the zero struct": {}, "an empty list": {Steps: []impl.PlanStep{}}, "no steps but room for some": {Steps: make([]impl.PlanStep, 0, 4)}, "a compiled one": ones} {
		wantValue(t, "ValidPlan of "+name, impl.ValidPlan(p), true)
		for count := range 30 {
			for _, x := range append(c.inputs(count), filled(count, of(0xff800001))) {
				got, ok := impl.RunPlan(p, x)
				if count <= impl.MaxSize {
					wantNumbersOk(t, "RunPlan of "+name, got, ok, x)
				} else {
					wantFailed(t, "RunPlan of "+name+" with many numbers", got, ok)
				}
			}
		}
		got, ok := impl.RunPlan(p, nil)
		wantNumbersOk(t, "RunPlan of "+name+" with nothing", got, ok, nil)
		for rows := int64(1); rows <= impl.MaxSide; rows++ {
			for columns := int64(1); columns <= impl.MaxSide; columns++ {
				x := c.anyTensor(rows, columns)
				got, ok := impl.RunPlanRows(p, x)
				if columns <= impl.MaxSize {
					wantTensorOk(t, "RunPlanRows of "+name, got, ok, x)
				} else {
					wantFailed(t, "RunPlanRows of "+name+" with many columns", got, ok)
				}
			}
		}
		for kind, broken := range brokenTensors() {
			got, ok := impl.RunPlanRows(p, broken)
			wantFailed(t, "RunPlanRows of "+name+" with "+kind, got, ok)
		}
	}
}

func TestRunsOfOtherLengths(t *testing.T) {
	c := chance(623)
	for name, p := range c.plans() {
		if len(p.Steps) == 0 {
			continue
		}
		in, out := p.Steps[0].In, p.Steps[len(p.Steps)-1].Out
		for length := range 20 {
			got, ok := impl.RunPlan(p, filled(length, 1))
			if int64(length) == in {
				wantValue(t, "RunPlan of "+name+": success", ok, true)
				wantValue(t, "RunPlan of "+name+": length", int64(len(got)), out)
			} else {
				wantFailed(t, "RunPlan of "+name+" with another length", got, ok)
			}
		}
		for _, rows := range []int64{1, 2, impl.MaxSide} {
			for columns := int64(1); columns <= impl.MaxSide; columns++ {
				got, ok := impl.RunPlanRows(p, c.smallTensor(rows, columns))
				if columns == in {
					wantValue(t, "RunPlanRows of "+name+": success", ok, true)
					wantValue(t, "RunPlanRows of "+name+": rows", got.Rows, rows)
					wantValue(t, "RunPlanRows of "+name+": columns", got.Columns, out)
					wantValue(t, "RunPlanRows of "+name+" is a tensor", impl.ValidTensor(got), true)
				} else {
					wantFailed(t, "RunPlanRows of "+name+" with other columns", got, ok)
				}
			}
		}
		for kind, broken := range brokenTensors() {
			got, ok := impl.RunPlanRows(p, broken)
			wantFailed(t, "RunPlanRows of "+name+" with "+kind, got, ok)
		}
		got, ok := impl.RunPlanRows(p, impl.Tensor{Rows: math.MaxInt64, Columns: in})
		wantFailed(t, "RunPlanRows of "+name+" with the most rows", got, ok)
	}
}
