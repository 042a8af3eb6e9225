package tests

import (
	"math"
	"testing"

	"loop.example/g01157/impl"
)

func wantTensorsOk(t *testing.T, what string, got []impl.Tensor, ok bool, want []impl.Tensor) {
	t.Helper()
	wantValue(t, what+": success", ok, true)
	wantValue(t, what+": length", len(got), len(want))
	for i := range min(len(got), len(want)) {
		wantTensor(t, what+", operation "+impl.Decimal(int64(i)), got[i], want[i])
	}
}

// checkTape requires the values and gradients that the rules make.
func checkTape(t *testing.T, what string, tape []impl.Op) {
	t.Helper()
	var values []*plain[float32]
	for _, value := range valuesByRule[float32](tape) {
		values = append(values, &value)
	}
	got, ok := impl.RunTape(tape)
	wantTensorsOk(t, "RunTape of "+what, got, ok, tensorsByRule(tape, values))
	got, ok = impl.Gradients(tape)
	wantTensorsOk(t, "Gradients of "+what, got, ok, tensorsByRule(tape, gradientsByRule(tape)))
	wide, ok := impl.RunWide(tape)
	wantWideOk(t, "RunWide of "+what, wide, ok, valuesByRule[float64](tape)[len(tape)-1].data)
}

func sameWide(a, b float64) bool {
	if a != a || b != b {
		return a != a && b != b
	}
	return a == b && math.Signbit(a) == math.Signbit(b)
}

func wantWide(t *testing.T, what string, got, want float64) {
	t.Helper()
	if !sameWide(got, want) {
		t.Errorf("%s: got %g (%016x), want %g (%016x)", what, got, math.Float64bits(got), want, math.Float64bits(want))
	}
}

func wantWideOk(t *testing.T, what string, got []float64, ok bool, want []float64) {
	t.Helper()
	wantValue(t, what+": success", ok, true)
	wantValue(t, what+": length", len(got), len(want))
	for i := range min(len(got), len(want)) {
		wantWide(t, what, got[i], want[i])
	}
}

func TestValuesOfEachKind(t *testing.T) {
	v, w, row := tensor(2, 2, 1, -2, 3, 0.5), tensor(2, 2, 4, 5, -6, 7), tensor(1, 2, 10, -1)
	first := tapeOf(inputOp(v), inputOp(w), inputOp(row))
	for _, c := range []struct {
		op   impl.Op
		want impl.Tensor
	}{
		{inputOp(w), w},
		{opOf(impl.OpAdd, 0, 1), tensor(2, 2, 5, 3, -3, 7.5)},
		{opOf(impl.OpAddRow, 0, 2), tensor(2, 2, 11, -3, 13, -0.5)},
		{opOf(impl.OpMul, 0, 1), tensor(2, 2, 4, -10, -18, 3.5)},
		{opOf(impl.OpMulRow, 0, 2), tensor(2, 2, 10, 2, 30, -0.5)},
		{scaleOp(0, -2), tensor(2, 2, -2, 4, -6, -1)},
		{scaleOp(0, minusZero), tensor(2, 2, minusZero, 0, minusZero, minusZero)},
		{opOf(impl.OpMatMul, 0, 1), tensor(2, 2, 16, -9, 9, 18.5)},
		{opOf(impl.OpMatMul, 1, 0), tensor(2, 2, 19, -5.5, 15, 15.5)},
		{opOf(impl.OpMatMul, 2, 0), tensor(1, 2, 7, -20.5)},
		{opOf(impl.OpTranspose, 0), tensor(2, 2, 1, 3, -2, 0.5)},
		{opOf(impl.OpTranspose, 2), tensor(2, 1, 10, -1)},
		{opOf(impl.OpRelu, 0), tensor(2, 2, 1, 0, 3, 0.5)},
		{opOf(impl.OpSquare, 0), tensor(2, 2, 1, 4, 9, 0.25)},
		{opOf(impl.OpSum, 0), tensor(1, 1, 2.5)},
	} {
		got, ok := impl.RunTape(append(first, c.op))
		wantTensorsOk(t, "RunTape, kind "+impl.Decimal(c.op.Kind), got, ok, []impl.Tensor{v, w, row, c.want})
	}
}

func TestGradientsOfEachKind(t *testing.T) {
	v, w, row := tensor(2, 2, 1, -2, 3, 0.5), tensor(2, 2, 4, 5, -6, 7), tensor(1, 2, 10, -1)
	first := tapeOf(inputOp(v), inputOp(w), inputOp(row))
	// The operation gets these gradients from a product behind it.
	g := tensor(2, 2, 2, -3, 5, 0.5)
	none := func(t impl.Tensor) impl.Tensor { return tensor(t.Rows, t.Columns, filled(len(t.Data), 0)...) }
	for _, c := range []struct {
		op         impl.Op
		forV, forW impl.Tensor
		forRow     impl.Tensor
	}{
		{opOf(impl.OpAdd, 0, 1), g, g, none(row)},
		{opOf(impl.OpAddRow, 0, 2), g, none(w), tensor(1, 2, 7, -2.5)},
		{opOf(impl.OpMul, 0, 1), tensor(2, 2, 8, -15, -30, 3.5), tensor(2, 2, 2, 6, 15, 0.25), none(row)},
		{opOf(impl.OpMulRow, 0, 2), tensor(2, 2, 20, 3, 50, -0.5), none(w), tensor(1, 2, 17, 6.25)},
		{scaleOp(0, -2), tensor(2, 2, -4, 6, -10, -1), none(w), none(row)},
		{opOf(impl.OpMatMul, 0, 1), tensor(2, 2, -7, -33, 22.5, -26.5), tensor(2, 2, 17, -1.5, -1.5, 6.25), none(row)},
		{opOf(impl.OpMatMul, 1, 0), tensor(2, 2, -22, -15, 45, -11.5), tensor(2, 2, 8, 4.5, 4, 15.25), none(row)},
		{opOf(impl.OpTranspose, 0), tensor(2, 2, 2, 5, -3, 0.5), none(w), none(row)},
		{opOf(impl.OpRelu, 0), tensor(2, 2, 2, 0, 5, 0.5), none(w), none(row)},
		{opOf(impl.OpSquare, 0), tensor(2, 2, 4, 12, 30, 0.5), none(w), none(row)},
	} {
		tape := append(first, c.op, inputOp(g), opOf(impl.OpMul, 3, 4))
		name := "Gradients, kind " + impl.Decimal(c.op.Kind)
		values, _ := impl.RunTape(tape)
		got, ok := impl.Gradients(tape)
		wantTensorsOk(t, name, got, ok, []impl.Tensor{c.forV, c.forW, c.forRow, g, values[3], tensor(2, 2, 1, 1, 1, 1)})
	}
	got, ok := impl.Gradients(append(first, opOf(impl.OpSum, 0), scaleOp(3, -0.75)))
	wantTensorsOk(t, "Gradients of a sum", got, ok, []impl.Tensor{tensor(2, 2, filled(4, -0.75)...), none(w), none(row), tensor(1, 1, -0.75), tensor(1, 1, 1)})
}

func TestGradientsOfShapesThatAreNotSquare(t *testing.T) {
	a, b := tensor(2, 3, 1, 2, 3, 4, 5, 6), tensor(3, 1, 7, 8, 9)
	got, ok := impl.Gradients(tapeOf(inputOp(a), inputOp(b), opOf(impl.OpMatMul, 0, 1)))
	wantTensorsOk(t, "Gradients of a product", got, ok, []impl.Tensor{tensor(2, 3, 7, 8, 9, 7, 8, 9), tensor(3, 1, 5, 7, 9), tensor(2, 1, 1, 1)})
	got, ok = impl.Gradients(tapeOf(inputOp(a), opOf(impl.OpTranspose, 0), rowOp(1, 2), opOf(impl.OpMulRow, 1, 2)))
	wantTensorsOk(t, "Gradients of turned rows", got, ok, []impl.Tensor{tensor(2, 3, 1, 1, 1, 2, 2, 2), tensor(3, 2, 1, 2, 1, 2, 1, 2), tensor(1, 2, 6, 15), tensor(3, 2, filled(6, 1)...)})
	got, ok = impl.Gradients(tapeOf(inputOp(a), rowOp(1, 2, 3), opOf(impl.OpAddRow, 0, 1)))
	wantTensorsOk(t, "Gradients of added rows", got, ok, []impl.Tensor{tensor(2, 3, filled(6, 1)...), tensor(1, 3, 2, 2, 2), tensor(2, 3, filled(6, 1)...)})
	got, ok = impl.Gradients(tapeOf(inputOp(a)))
	wantTensorsOk(t, "Gradients of an input", got, ok, []impl.Tensor{tensor(2, 3, filled(6, 1)...)})
}

func TestOperationsThatNothingUses(t *testing.T) {
	// Each of them would make a not-a-number of its operands' gradients.
	for _, unused := range []impl.Op{
		opOf(impl.OpMul, 0, 1), opOf(impl.OpMulRow, 0, 1), opOf(impl.OpMatMul, 0, 1), opOf(impl.OpSquare, 0), scaleOp(0, nan), scaleOp(0, infinity),
	} {
		tape := tapeOf(rowOp(infinity), rowOp(nan), unused, scaleOp(0, 3))
		got, ok := impl.Gradients(tape)
		wantTensorsOk(t, "Gradients beside an unused operation", got, ok, []impl.Tensor{tensor(1, 1, 3), tensor(1, 1, 0), tensor(1, 1, 0), tensor(1, 1, 1)})
		tape = tapeOf(rowOp(infinity), rowOp(nan), unused, opOf(impl.OpAdd, 2, 2), opOf(impl.OpSquare, 3), opOf(impl.OpSum, 0))
		got, ok = impl.Gradients(tape)
		wantTensorsOk(t, "Gradients beside several", got, ok, []impl.Tensor{tensor(1, 1, 1), tensor(1, 1, 0), tensor(1, 1, 0), tensor(1, 1, 0), tensor(1, 1, 0), tensor(1, 1, 1)})
	}
	// A contribution of zeros is one, and goes on.
	got, ok := impl.Gradients(tapeOf(rowOp(infinity), opOf(impl.OpSquare, 0), scaleOp(1, 0)))
	wantTensorsOk(t, "Gradients behind a zero", got, ok, []impl.Tensor{tensor(1, 1, nan), tensor(1, 1, 0), tensor(1, 1, 1)})
	got, ok = impl.Gradients(tapeOf(rowOp(4, 5), rowOp(nan), opOf(impl.OpSum, 0), rowOp(3)))
	wantTensorsOk(t, "Gradients of an input behind others", got, ok, []impl.Tensor{tensor(1, 2, 0, 0), tensor(1, 1, 0), tensor(1, 1, 0), tensor(1, 1, 1)})
}

func TestAValueThatIsUsedTwice(t *testing.T) {
	x := tensor(2, 2, 3, -4, 0.5, minusZero)
	got, ok := impl.Gradients(tapeOf(inputOp(x), opOf(impl.OpAdd, 0, 0)))
	wantTensorsOk(t, "Gradients of a double", got, ok, []impl.Tensor{tensor(2, 2, 2, 2, 2, 2), tensor(2, 2, 1, 1, 1, 1)})
	got, ok = impl.Gradients(tapeOf(inputOp(x), opOf(impl.OpMul, 0, 0)))
	wantTensorsOk(t, "Gradients of a square", got, ok, []impl.Tensor{tensor(2, 2, 6, -8, 1, minusZero), tensor(2, 2, 1, 1, 1, 1)})
	got, ok = impl.Gradients(tapeOf(rowOp(3, -4), opOf(impl.OpAddRow, 0, 0)))
	wantTensorsOk(t, "Gradients of a row and itself", got, ok, []impl.Tensor{tensor(1, 2, 2, 2), tensor(1, 2, 1, 1)})
	got, ok = impl.Gradients(tapeOf(rowOp(3, -4), opOf(impl.OpMulRow, 0, 0)))
	wantTensorsOk(t, "Gradients of a row times itself", got, ok, []impl.Tensor{tensor(1, 2, 6, -8), tensor(1, 2, 1, 1)})
	got, ok = impl.Gradients(tapeOf(inputOp(tensor(2, 2, 1, 2, 3, 4)), opOf(impl.OpMatMul, 0, 0)))
	wantTensorsOk(t, "Gradients of a product with itself", got, ok, []impl.Tensor{tensor(2, 2, 7, 11, 9, 13), tensor(2, 2, 1, 1, 1, 1)})
	// With 2 (g v) it would stay finite.
	got, ok = impl.Gradients(tapeOf(rowOp(greatest), opOf(impl.OpSquare, 0), scaleOp(1, 0.25)))
	wantTensorsOk(t, "Gradients of a great square", got, ok, []impl.Tensor{tensor(1, 1, infinity), tensor(1, 1, 0.25), tensor(1, 1, 1)})
	got, ok = impl.Gradients(tapeOf(rowOp(greatest), opOf(impl.OpMul, 0, 0), scaleOp(1, 0.25)))
	wantTensorsOk(t, "Gradients of a great product", got, ok, []impl.Tensor{tensor(1, 1, greatest/2), tensor(1, 1, 0.25), tensor(1, 1, 1)})
}

func TestTheOrderOfContributionsDecides(t *testing.T) {
	const big = 16777216 // its next greater number is 2 away
	for _, c := range []struct {
		factors [3]float32 // of the operations 1, 2 and 3
		want    float32
	}{
		{[3]float32{big, 1, 1}, big + 2}, {[3]float32{1, 1, big}, big}, {[3]float32{1, big, 1}, big},
		{[3]float32{-big, big, 1}, 0}, {[3]float32{1, big, -big}, 1}, {[3]float32{-big, 1, big}, 0},
		{[3]float32{infinity, 1, -infinity}, nan}, {[3]float32{greatest, greatest, -greatest}, greatest}, {[3]float32{-greatest, greatest, greatest}, infinity},
		{[3]float32{minusZero, minusZero, minusZero}, minusZero}, {[3]float32{minusZero, 0, minusZero}, 0},
	} {
		f := c.factors
		tape := tapeOf(rowOp(1), scaleOp(0, f[0]), scaleOp(0, f[1]), scaleOp(0, f[2]), opOf(impl.OpAdd, 1, 2), opOf(impl.OpAdd, 3, 4))
		got, ok := impl.Gradients(tape)
		wantTensorsOk(t, "Gradients of three uses", got, ok, []impl.Tensor{
			tensor(1, 1, c.want), tensor(1, 1, 1), tensor(1, 1, 1), tensor(1, 1, 1), tensor(1, 1, 1), tensor(1, 1, 1)})
	}
	// The product contributes behind the scale, and to its A before its B.
	tape := tapeOf(inputOp(tensor(2, 2, 0, 1, -big, 0)), opOf(impl.OpMatMul, 0, 0), scaleOp(0, big), opOf(impl.OpAdd, 1, 2))
	got, ok := impl.Gradients(tape)
	wantValue(t, "Gradients of a product with itself: success", ok, true)
	wantTensor(t, "Gradients of a product with itself", got[0], tensor(2, 2, 0, -big, big, 1))
}

func TestZerosInGradients(t *testing.T) {
	for _, c := range []struct {
		name       string
		op         impl.Op
		forA, forB float32
	}{
		{"add", opOf(impl.OpAdd, 0, 1), minusZero, minusZero},
		{"add a row", opOf(impl.OpAddRow, 0, 1), minusZero, 0},
		{"multiply", opOf(impl.OpMul, 0, 1), 0, minusZero},
		{"multiply with a row", opOf(impl.OpMulRow, 0, 1), 0, 0},
		{"scale", scaleOp(0, 7), minusZero, 0},
		{"scale with less than 0", scaleOp(0, -7), 0, 0},
		{"product", opOf(impl.OpMatMul, 0, 1), 0, 0},
		{"transpose", opOf(impl.OpTranspose, 0), minusZero, 0},
		{"relu", opOf(impl.OpRelu, 0), minusZero, 0},
		{"square", opOf(impl.OpSquare, 0), minusZero, 0},
		{"sum", opOf(impl.OpSum, 0), minusZero, 0},
	} {
		got, ok := impl.Gradients(tapeOf(rowOp(2), rowOp(-3), c.op, scaleOp(2, minusZero)))
		wantTensorsOk(t, "Gradients of -0, "+c.name, got, ok, []impl.Tensor{tensor(1, 1, c.forA), tensor(1, 1, c.forB), tensor(1, 1, minusZero), tensor(1, 1, 1)})
	}
}

func TestReluOfEachNumber(t *testing.T) {
	for _, x := range edges() {
		for _, g := range edges() {
			tape := tapeOf(rowOp(1, x, -1), opOf(impl.OpRelu, 0), rowOp(1, g, 1), opOf(impl.OpMul, 1, 2))
			value, gradient := x, float32(0)
			if x > 0 {
				gradient = g
			} else if !isNan(x) {
				value = 0
			}
			values, ok := impl.RunTape(tape)
			wantTensorOk(t, "RunTape of a Relu", values[1], ok, tensor(1, 3, 1, value, 0))
			got, ok := impl.Gradients(tape)
			wantTensorOk(t, "Gradients of a Relu", got[0], ok, tensor(1, 3, 1, gradient, 0))
			wide, ok := impl.RunWide(tape[:2])
			wantWideOk(t, "RunWide of a Relu", wide, ok, []float64{1, float64(value), 0})
		}
	}
}

func TestEachNumberInGradients(t *testing.T) {
	for _, x := range edges() {
		for _, y := range edges() {
			for kind, op := range simpleOps() {
				if kind == impl.OpInput {
					continue
				}
				op.A = 0
				checkTape(t, "two numbers", tapeOf(rowOp(x), rowOp(y), op, scaleOp(2, y)))
				if kind == impl.OpScale {
					op.Number = y
				}
				checkTape(t, "two numbers turned around", tapeOf(rowOp(y), rowOp(x), op, opOf(impl.OpSquare, 2)))
			}
		}
	}
}

func TestTapesByTheRules(t *testing.T) {
	checkTape(t, "each kind", eachOpTape())
	c := chance(110)
	for range 300 {
		checkTape(t, "small numbers", c.smallTape(1+c.below(48)))
		checkTape(t, "any numbers", c.anyTape(1+c.below(12)))
		checkTape(t, "integers", c.wholeTape(1+c.below(48)))
	}
	for range 20 {
		checkTape(t, "MaxOps operations", c.smallTape(48))
	}
}

func TestTapesOfTheGreatestTensors(t *testing.T) {
	c := chance(111)
	for _, shape := range shapes() {
		v, w, row := c.smallTensor(shape[0], shape[1]), c.smallTensor(shape[0], shape[1]), c.smallTensor(1, shape[1])
		checkTape(t, "tensors of each shape", tapeOf(inputOp(v), inputOp(w), inputOp(row), opOf(impl.OpAdd, 0, 1), opOf(impl.OpMulRow, 3, 2),
			opOf(impl.OpMul, 4, 0), opOf(impl.OpAddRow, 5, 2), opOf(impl.OpTranspose, 6), opOf(impl.OpMatMul, 7, 1), opOf(impl.OpRelu, 8),
			opOf(impl.OpSquare, 9), scaleOp(10, 0.375), opOf(impl.OpSum, 11)))
		checkTape(t, "products of each shape", tapeOf(inputOp(v), opOf(impl.OpTranspose, 0), opOf(impl.OpMatMul, 0, 1), opOf(impl.OpMatMul, 1, 0), opOf(impl.OpMatMul, 2, 2)))
	}
}
