package tests

import (
	"fmt"
	"testing"

	"loop.example/g01157/impl"
)

// The kinds of steps have the numbers of the kinds of layers.
func TestKindsOfSteps(t *testing.T) {
	kinds := []int64{impl.PlanDense, impl.PlanRelu, impl.PlanScale, impl.PlanTanh, impl.PlanSoftmax, impl.PlanNorm}
	wantListOk(t, "the kinds of steps", kinds, true, allKinds())
	layers := []int64{impl.LayerDense, impl.LayerRelu, impl.LayerScale, impl.LayerTanh, impl.LayerSoftmax, impl.LayerNorm}
	wantListOk(t, "the kinds of layers", layers, true, kinds)
}

func TestValidPlans(t *testing.T) {
	c := chance(600)
	for name, p := range c.plans() {
		wantValue(t, "ValidPlan of "+name, impl.ValidPlan(p), true)
	}
	for name, broken := range brokenPlans() {
		wantValue(t, "ValidPlan of "+name, impl.ValidPlan(broken), false)
	}
}

func TestValidPlansOfManySteps(t *testing.T) {
	for _, kind := range allKinds() {
		var steps []impl.PlanStep
		for count := 0; count <= 9; count++ {
			wantValue(t, "ValidPlan of steps", impl.ValidPlan(plan(steps...)), count <= impl.MaxLayers)
			steps = append(steps, stepsOf(kind, 2, 2, func(count int) []float32 { return filled(count, 1) })[0])
		}
	}
}

// Each form of a step is held against the text of the document: kinds and
// sizes at their ends, lists that are too short and too long, Scales of each
// length, and Relu.
func TestValidSteps(t *testing.T) {
	sizes := []int64{-1, 0, 1, 2, 8, 9}
	for kind := int64(-1); kind <= 6; kind++ {
		for _, in := range sizes {
			for _, out := range sizes {
				weights, bias := sizesByRule(kind, in, out)
				for _, more := range [][2]int64{{0, 0}, {1, 0}, {-1, 0}, {0, 1}, {0, -1}, {1, -1}} {
					if weights+more[0] < 0 || bias+more[1] < 0 {
						continue
					}
					s := stepFor(layer(kind, in, out, filled(int(weights+more[0]), nan), filled(int(bias+more[1]), infinity)))
					for scales := range 11 {
						scaled := withScales(s, filled(scales, 1)...)
						for _, s := range []impl.PlanStep{scaled, withRelu(scaled)} {
							what := fmt.Sprintf("ValidPlan of kind %d of %d and %d with %d, %d, %d, %t", kind, in, out, len(s.Weights), len(s.Bias), scales, s.Relu)
							wantValue(t, what, impl.ValidPlan(plan(s)), isPlanByRule(plan(s)))
						}
					}
				}
			}
		}
	}
}

func TestStepsThatFit(t *testing.T) {
	ones := func(count int) []float32 { return filled(count, 1) }
	for first := int64(1); first <= 8; first++ {
		for second := int64(1); second <= 8; second++ {
			for _, a := range stepsOf(impl.PlanDense, 3, first, ones) {
				for _, kind := range allKinds() {
					for _, b := range stepsOf(kind, second, 2, ones) {
						wantValue(t, "ValidPlan of two", impl.ValidPlan(plan(a, b)), first == second)
						wantValue(t, "ValidPlan of three", impl.ValidPlan(plan(a, b, stepFor(layer(impl.LayerTanh, b.Out, b.Out, nil, nil)))), first == second)
					}
				}
			}
		}
	}
}

// Scales and lists that are empty and not nil are none.
func TestEmptyScalesAreNone(t *testing.T) {
	dense := stepFor(layer(impl.LayerDense, 1, 1, []float32{2}, []float32{-3}))
	for _, s := range []impl.PlanStep{stepFor(layer(impl.LayerRelu, 1, 1, []float32{}, []float32{})), dense, withRelu(dense)} {
		s.Scales = []float32{}
		wantValue(t, "ValidPlan with an empty list of Scales", impl.ValidPlan(plan(s)), true)
		text, ok := impl.PlanText(plan(s))
		wantOk(t, "the text with an empty list of Scales", text, ok, planTextByRule(plan(s)))
		products, ok := impl.PlanProducts(plan(s))
		wantOk(t, "the products with an empty list of Scales", products, ok, productsByRule(plan(s)))
		made, ok := impl.RunPlan(plan(s), []float32{1})
		wantNumbersOk(t, "a plan with an empty list of Scales", made, ok, runByRule(plan(s), []float32{1}))
	}
}

// checkCounts holds products, room and text against the text of the document.
func checkCounts(t *testing.T, name string, p impl.Plan) {
	t.Helper()
	products, ok := impl.PlanProducts(p)
	wantOk(t, "PlanProducts of "+name, products, ok, productsByRule(p))
	room, ok := impl.PlanRoom(p)
	wantOk(t, "PlanRoom of "+name, room, ok, roomByRule(p))
	text, ok := impl.PlanText(p)
	wantOk(t, "PlanText of "+name, text, ok, planTextByRule(p))
}

func TestCountsOfPlans(t *testing.T) {
	c := chance(601)
	for name, p := range c.plans() {
		checkCounts(t, name, p)
	}
	for _, kind := range allKinds() {
		for in := int64(1); in <= 8; in++ {
			for out := int64(1); out <= 8; out++ {
				for _, s := range stepsOf(kind, in, out, c.anyList) {
					checkCounts(t, "a step", plan(s))
				}
			}
		}
	}
}

func TestToldCountsOfPlans(t *testing.T) {
	ones := func(count int) []float32 { return filled(count, 1) }
	of := func(kind, in, out int64) impl.PlanStep { return stepsOf(kind, in, out, ones)[0] }
	scaled := func(in, out int64) impl.PlanStep { return stepsOf(impl.PlanDense, in, out, ones)[1] }
	most := of(0, 8, 8)
	for _, told := range []struct {
		plan           impl.Plan
		products, room int64
		text           string
	}{
		{plan(), 0, 0, "none"},
		{plan(of(0, 2, 3)), 6, 5, "dense2>3"},
		{plan(withRelu(of(0, 2, 3))), 6, 5, "dense+2>3"},
		{plan(scaled(2, 3)), 9, 5, "dense*2>3"},
		{plan(scaled(3, 2)), 8, 5, "dense*3>2"},
		{plan(of(1, 4, 4)), 0, 8, "relu4>4"},
		{plan(of(2, 5, 5)), 5, 10, "scale5>5"},
		{plan(of(3, 6, 6)), 0, 12, "tanh6>6"},
		{plan(of(4, 7, 7)), 0, 14, "softmax7>7"},
		{plan(of(5, 8, 8)), 8, 16, "norm8>8"},
		{plan(of(0, 1, 1)), 1, 2, "dense1>1"},
		{plan(scaled(1, 1), withRelu(of(0, 1, 1))), 3, 2, "dense*1>1 dense+1>1"},
		{plan(of(0, 8, 1), of(0, 1, 8)), 16, 9, "dense8>1 dense1>8"},
		{plan(of(0, 1, 6), of(1, 6, 6), of(0, 6, 1)), 12, 12, "dense1>6 relu6>6 dense6>1"},
		{plan(withRelu(of(0, 2, 3)), of(4, 3, 3)), 6, 6, "dense+2>3 softmax3>3"},
		{plan(scaled(8, 8), scaled(8, 8), scaled(8, 8), scaled(8, 8), scaled(8, 8), scaled(8, 8)), 432, 16, "dense*8>8 dense*8>8 dense*8>8 dense*8>8 dense*8>8 dense*8>8"},
		{plan(most, withRelu(most), of(5, 8, 8), of(2, 8, 8), of(3, 8, 8), of(1, 8, 8)), 144, 16, "dense8>8 dense+8>8 norm8>8 scale8>8 tanh8>8 relu8>8"},
	} {
		products, ok := impl.PlanProducts(told.plan)
		wantOk(t, "the products of "+told.text, products, ok, told.products)
		room, ok := impl.PlanRoom(told.plan)
		wantOk(t, "the room of "+told.text, room, ok, told.room)
		text, ok := impl.PlanText(told.plan)
		wantOk(t, "a text", text, ok, told.text)
	}
}

func TestBrokenPlansHaveNothing(t *testing.T) {
	for name, broken := range brokenPlans() {
		products, ok := impl.PlanProducts(broken)
		wantFailed(t, "PlanProducts of "+name, products, ok)
		room, ok := impl.PlanRoom(broken)
		wantFailed(t, "PlanRoom of "+name, room, ok)
		text, ok := impl.PlanText(broken)
		wantFailed(t, "PlanText of "+name, text, ok)
		for length := range 10 {
			made, ok := impl.RunPlan(broken, filled(length, 1))
			wantFailed(t, "RunPlan of "+name, made, ok)
			rows, ok := impl.RunPlanRows(broken, tensor(2, int64(length), filled(2*length, 1)...))
			wantFailed(t, "RunPlanRows of "+name, rows, ok)
		}
	}
}
