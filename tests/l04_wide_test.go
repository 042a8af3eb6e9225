package tests

import (
	"math"
	"testing"

	"loop.example/g01157/impl"
)

func TestRunWide(t *testing.T) {
	const big = 16777216 // its next greater 32-bit number is 2 away
	third := float64(float32(1) / 3)
	for _, c := range []struct {
		name   string
		tape   []impl.Op
		want   []float64
		narrow []float32 // what RunTape has
	}{
		{"an input", tapeOf(rowOp(1, minusZero, infinity)), []float64{1, math.Copysign(0, -1), math.Inf(1)}, []float32{1, minusZero, infinity}},
		{"a lost 1", tapeOf(rowOp(big), rowOp(1), opOf(impl.OpAdd, 0, 1)), []float64{big + 1}, []float32{big}},
		{"a lost 1 in a row", tapeOf(rowOp(big), rowOp(1), opOf(impl.OpAddRow, 0, 1)), []float64{big + 1}, []float32{big}},
		{"a lost 1 in a sum", tapeOf(rowOp(big, 1, 1), opOf(impl.OpSum, 0)), []float64{big + 2}, []float32{big}},
		{"a lost 1 in a product", tapeOf(rowOp(big, 1, 1), inputOp(tensor(3, 1, 1, 1, 1)), opOf(impl.OpMatMul, 0, 1)), []float64{big + 2}, []float32{big}},
		{"a lost bit of a square", tapeOf(rowOp(4097), opOf(impl.OpSquare, 0)), []float64{16785409}, []float32{16785408}},
		{"a lost bit of a product", tapeOf(rowOp(4097), rowOp(4097), opOf(impl.OpMul, 0, 1)), []float64{16785409}, []float32{16785408}},
		{"a lost bit with a row", tapeOf(rowOp(4097), rowOp(4097), opOf(impl.OpMulRow, 0, 1)), []float64{16785409}, []float32{16785408}},
		{"a lost bit of a scale", tapeOf(rowOp(4097), scaleOp(0, 4097)), []float64{16785409}, []float32{16785408}},
		{"a Number as it is", tapeOf(rowOp(3), scaleOp(0, float32(1)/3)), []float64{3 * third}, []float32{1}},
		{"a lost 1 in between", tapeOf(rowOp(big), rowOp(1), opOf(impl.OpAdd, 0, 1), scaleOp(0, -1), opOf(impl.OpAdd, 2, 3)), []float64{1}, []float32{0}},
		{"a lost 1 at a Relu", tapeOf(rowOp(big), rowOp(1), opOf(impl.OpAdd, 0, 1), opOf(impl.OpRelu, 2)), []float64{big + 1}, []float32{big}},
		{"a lost 1 that is turned", tapeOf(rowOp(big, 2), rowOp(1, 2), opOf(impl.OpAdd, 0, 1), opOf(impl.OpTranspose, 2)), []float64{big + 1, 4}, []float32{big, 4}},
		{"over the greatest", tapeOf(rowOp(greatest), opOf(impl.OpAdd, 0, 0)), []float64{2 * float64(greatest)}, []float32{infinity}},
		{"under the least", tapeOf(rowOp(-least), opOf(impl.OpSquare, 0)), []float64{math.Ldexp(1, -298)}, []float32{0}},
		{"a Relu under the least", tapeOf(rowOp(least), opOf(impl.OpSquare, 0), opOf(impl.OpRelu, 1)), []float64{math.Ldexp(1, -298)}, []float32{0}},
		{"a sum of -0", tapeOf(rowOp(minusZero, minusZero), opOf(impl.OpSum, 0)), []float64{0}, []float32{0}},
		{"a not-a-number", tapeOf(rowOp(infinity), scaleOp(0, 0)), []float64{math.NaN()}, []float32{nan}},
		{"the last one alone", tapeOf(rowOp(big, 1), opOf(impl.OpSum, 0), rowOp(7)), []float64{7}, []float32{7}},
		// Beyond 2 to the power of 53, 64-bit numbers are lost as well.
		{"the order of a sum", tapeOf(rowOp(1<<53, 1, 1, -(1<<53)), opOf(impl.OpSum, 0)), []float64{0}, []float32{0}},
		{"the order of a product", tapeOf(rowOp(1, 1, 1<<53), inputOp(tensor(3, 1, 1, 1, 1)), opOf(impl.OpMatMul, 0, 1)), []float64{1<<53 + 2}, []float32{1 << 53}},
	} {
		wide, ok := impl.RunWide(c.tape)
		wantWideOk(t, "RunWide, "+c.name, wide, ok, c.want)
		values, ok := impl.RunTape(c.tape)
		wantNumbersOk(t, "RunTape, "+c.name, values[len(values)-1].Data, ok, c.narrow)
	}
}

// lastWide has the last value of a tape if one of its numbers is another one.
func lastWide(tape []impl.Op, op, place int64, number float64) float64 {
	values := make([]plain[float64], len(tape))
	for i, other := range tape {
		values[i] = valueByRule(other, values[other.A], values[other.B])
		if int64(i) == op {
			values[i].data[place] = number
		}
	}
	return values[len(tape)-1].data[0]
}

func slopeByRule(tape []impl.Op, op, place int64, step float64) float64 {
	x := float64(tape[op].Value.Data[place])
	greater, less := lastWide(tape, op, place, x+step), lastWide(tape, op, place, x-step)
	return (greater - less) / (2 * step)
}

func steps() []float64 {
	return []float64{
		0.5, 1, -1, 0.1, 1e-3, 1e-9, 1e-300, 3e300, math.MaxFloat64, math.SmallestNonzeroFloat64, 1 << 53, 0, math.Copysign(0, -1),
		math.Inf(1), math.Inf(-1), math.NaN(), -0.25,
	}
}

func TestWideSlope(t *testing.T) {
	square := tapeOf(rowOp(1, 3), opOf(impl.OpSquare, 0), opOf(impl.OpSum, 1))
	for _, c := range []struct {
		name       string
		tape       []impl.Op
		place      int64
		step, want float64
	}{
		{"a square", square, 0, 0.5, 2}, {"a square", square, 1, 0.5, 6}, {"a square back", square, 1, -0.5, 6}, {"a wide step", square, 1, 8, 6},
		{"a step of 0", square, 0, 0, math.NaN()}, {"a step of -0", square, 0, math.Copysign(0, -1), math.NaN()},
		{"an infinite step", square, 0, math.Inf(1), math.NaN()}, {"a step that is none", square, 0, math.NaN(), math.NaN()},
		{"an infinite step of a line", tapeOf(rowOp(2), scaleOp(0, 3)), 0, math.Inf(1), math.NaN()},
		{"a step that is lost", tapeOf(rowOp(2), scaleOp(0, 3)), 0, 1e-300, 0},
		{"a step whose double is infinite", tapeOf(rowOp(0), scaleOp(0, 0.25)), 0, math.MaxFloat64, 0},
		{"a number that nothing uses", tapeOf(rowOp(2), rowOp(3)), 0, 1, 0},
		{"an infinity that nothing uses", tapeOf(rowOp(2), rowOp(infinity)), 0, 1, math.NaN()},
		{"the last one itself", tapeOf(rowOp(2)), 0, 0.25, 1},
		{"a bend", tapeOf(rowOp(0), opOf(impl.OpRelu, 0)), 0, 0.25, 0.5},
		{"beside a bend", tapeOf(rowOp(1), opOf(impl.OpRelu, 0)), 0, 4, 0.625},
		{"a cube", tapeOf(rowOp(2), opOf(impl.OpSquare, 0), opOf(impl.OpMul, 0, 1)), 0, 1, 13},
		{"32 bits would lose it", tapeOf(rowOp(16777216), scaleOp(0, 3)), 0, 0.5, 3},
		{"32 bits would lose the step", tapeOf(rowOp(1), opOf(impl.OpSquare, 0)), 0, 1.0 / (1 << 25), 2},
	} {
		got, ok := impl.WideSlope(c.tape, 0, c.place, c.step)
		wantValue(t, "WideSlope of "+c.name+": success", ok, true)
		wantWide(t, "WideSlope of "+c.name, got, c.want)
	}
}

func TestWideSlopeAtOtherPlaces(t *testing.T) {
	tape := tapeOf(rowOp(1, 3), opOf(impl.OpSquare, 0), rowOp(2, 5, 7), opOf(impl.OpSum, 1), opOf(impl.OpSum, 2), opOf(impl.OpMul, 3, 4))
	slopes := map[[2]int64]float64{{0, 0}: 28, {0, 1}: 84, {2, 0}: 10, {2, 1}: 10, {2, 2}: 10}
	integers := append(anyIntegers(), -2, 3, 4, 5, 6, 7, 47, 48)
	for _, op := range integers {
		for _, place := range integers {
			got, ok := impl.WideSlope(tape, op, place, 0.5)
			if want, is := slopes[[2]int64{op, place}]; is {
				wantOk(t, "WideSlope", got, ok, want)
			} else {
				wantFailed(t, "WideSlope at another place", got, ok)
			}
		}
	}
	for _, last := range [][2]int64{{1, 2}, {2, 1}, {2, 2}, {16, 16}} {
		data := filled(int(last[0]*last[1]), 1)
		wide := tapeOf(rowOp(1), inputOp(tensor(last[0], last[1], data...)))
		for op := range int64(2) {
			got, ok := impl.WideSlope(wide, op, 0, 0.5)
			wantFailed(t, "WideSlope of several numbers", got, ok)
		}
		got, ok := impl.WideSlope(append(wide, opOf(impl.OpSum, 1)), 1, last[0]*last[1]-1, 0.5)
		wantOk(t, "WideSlope of their sum", got, ok, 1)
	}
}

func TestWideSlopeOfAnyTape(t *testing.T) {
	c := chance(120)
	for range 150 {
		for _, tape := range [][]impl.Op{c.smallTape(1 + c.below(20)), c.anyTape(1 + c.below(8))} {
			tape = append(tape, opOf(impl.OpSum, int64(len(tape)-1)))
			for op := range tape {
				for place := range tape[op].Value.Data {
					for _, step := range steps() {
						got, ok := impl.WideSlope(tape, int64(op), int64(place), step)
						wantValue(t, "WideSlope: success", ok, true)
						wantWide(t, "WideSlope of any tape", got, slopeByRule(tape, int64(op), int64(place), step))
					}
				}
			}
		}
	}
}

// degrees has for each value of a tape the degree in which it depends on its
// inputs, where a Relu does not bend.
func degrees(tape []impl.Op) []int {
	list := make([]int, len(tape))
	for i, op := range tape {
		switch op.Kind {
		case impl.OpInput:
			list[i] = 1
		case impl.OpMul, impl.OpMulRow, impl.OpMatMul:
			list[i] = list[op.A] + list[op.B]
		case impl.OpAdd, impl.OpAddRow:
			list[i] = max(list[op.A], list[op.B])
		case impl.OpSquare:
			list[i] = 2 * list[op.A]
		default:
			list[i] = list[op.A]
		}
	}
	return list
}

// isExactAt reports whether a step of 0.5 at a number keeps clear of the
// bends, and all numbers so small that 32 bits hold them.
func isExactAt(tape []impl.Op, op, place int) bool {
	before := valuesByRule[float64](tape)
	for _, step := range []float32{-0.5, 0, 0.5} {
		moved, ok := impl.ReplaceInput(tape, int64(op), withNumber(tape[op].Value, 0, int64(place), tape[op].Value.Data[place]+step))
		if !ok {
			return false
		}
		values := valuesByRule[float64](moved)
		for i, other := range moved {
			for _, x := range values[i].data {
				if math.Abs(x) > 1<<18 {
					return false
				}
			}
			for k, x := range values[other.A].data {
				if other.Kind == impl.OpRelu && (x == 0 || before[other.A].data[k] > 0 != (x > 0)) {
					return false
				}
			}
		}
	}
	return true
}

func TestGradientsAreSlopesWhereNumbersAreExact(t *testing.T) {
	c := chance(121)
	checked, kinds := 0, map[int64]int{}
	for range 3000 {
		tape := c.wholeTape(2 + c.below(8))
		tape = append(tape, opOf(impl.OpSum, int64(len(tape)-1)))
		if degrees(tape)[len(tape)-1] > 2 {
			continue
		}
		gradients, ok := impl.Gradients(tape)
		wantValue(t, "Gradients: success", ok, true)
		for op := range tape {
			for place := range tape[op].Value.Data {
				if !isExactAt(tape, op, place) {
					continue
				}
				slope, ok := impl.WideSlope(tape, int64(op), int64(place), 0.5)
				wantOk(t, "WideSlope, which is the gradient", slope, ok, float64(gradients[op].Data[place]))
				checked++
				used, _ := impl.UsedOps(tape)
				for _, index := range used {
					kinds[tape[index].Kind]++
				}
			}
		}
	}
	wantValue(t, "many slopes", checked > 3000, true)
	for _, kind := range allOpKinds() {
		wantValue(t, "many slopes of the kind "+impl.Decimal(kind), kinds[kind] > 100, true)
	}
}
