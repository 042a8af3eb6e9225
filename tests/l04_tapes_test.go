package tests

import (
	"math"
	"slices"
	"testing"

	"loop.example/g01157/impl"
)

func TestTapesOfEachLength(t *testing.T) {
	wantValue(t, "ValidTape of nil", impl.ValidTape(nil), false)
	for count := range 60 {
		inputs := slices.Repeat(tapeOf(rowOp(1, 2)), count)
		wantValue(t, "ValidTape of inputs", impl.ValidTape(inputs), 1 <= count && count <= 48)
		chain := tapeOf(rowOp(1, 2))
		for i := range count {
			chain = append(chain, opOf(impl.OpAdd, int64(i), 0))
		}
		wantValue(t, "ValidTape of a chain", impl.ValidTape(chain), count < 48)
	}
}

// simpleOps has a valid operation of each kind behind two inputs of one
// number.
func simpleOps() map[int64]impl.Op {
	list := map[int64]impl.Op{impl.OpInput: rowOp(3), impl.OpScale: scaleOp(1, 2)}
	for _, kind := range []int64{impl.OpTranspose, impl.OpRelu, impl.OpSquare, impl.OpSum} {
		list[kind] = opOf(kind, 1)
	}
	for _, kind := range []int64{impl.OpAdd, impl.OpAddRow, impl.OpMul, impl.OpMulRow, impl.OpMatMul} {
		list[kind] = opOf(kind, 1, 1)
	}
	return list
}

func isValidBehindTwo(op impl.Op) bool {
	return impl.ValidTape(tapeOf(rowOp(1), rowOp(2), op, rowOp(4)))
}

func TestEachKind(t *testing.T) {
	wantValue(t, "the number of kinds", len(simpleOps()), 11)
	for kind, op := range simpleOps() {
		wantValue(t, "ValidTape with the kind "+impl.Decimal(kind), isValidBehindTwo(op), true)
	}
	for _, kind := range append(anyIntegers(), -2, -3, 11, 12, 13, 14, 15, 16) {
		if 0 <= kind && kind <= 10 {
			continue
		}
		for _, valid := range simpleOps() {
			op := valid
			op.Kind = kind
			wantValue(t, "ValidTape with the kind "+impl.Decimal(kind), isValidBehindTwo(op), false)
		}
	}
}

func TestOperandsAreBefore(t *testing.T) {
	for kind, valid := range simpleOps() {
		name := "ValidTape with operands, kind " + impl.Decimal(kind)
		for _, index := range append(anyIntegers(), -2, 2, 3, 4, 47, 48) {
			operands := len(operandsByRule(valid))
			isBefore := index == 0 || index == 1
			op := valid
			op.A = index
			wantValue(t, name+": A", isValidBehindTwo(op), operands >= 1 && isBefore || index == 0)
			op = valid
			op.B = index
			wantValue(t, name+": B", isValidBehindTwo(op), operands == 2 && isBefore || index == 0)
			op.A = index
			wantValue(t, name+": both", isValidBehindTwo(op), operands == 2 && isBefore || operands == 1 && index == 0 || index == 0)
		}
	}
}

func TestOperandsAtEachPlace(t *testing.T) {
	for place := range int64(6) {
		for operand := int64(-2); operand <= 8; operand++ {
			tape := slices.Repeat(tapeOf(rowOp(1)), 6)
			tape[place] = opOf(impl.OpTranspose, operand)
			wantValue(t, "ValidTape with A", impl.ValidTape(tape), 0 <= operand && operand < place)
			tape[place] = opOf(impl.OpAdd, operand, 0)
			wantValue(t, "ValidTape with A and 0", impl.ValidTape(tape), 0 <= operand && operand < place)
			tape[place] = opOf(impl.OpAdd, 0, operand)
			wantValue(t, "ValidTape with 0 and B", impl.ValidTape(tape), 0 <= operand && operand < place)
		}
	}
}

func TestFieldsThatAKindDoesNotName(t *testing.T) {
	for kind, valid := range simpleOps() {
		name := "ValidTape, kind " + impl.Decimal(kind)
		for _, number := range edges() {
			op := valid
			op.Number = number
			isZero := number == 0 && !math.Signbit(float64(number))
			wantValue(t, name+": Number", isValidBehindTwo(op), kind == impl.OpScale || isZero)
		}
		for what, value := range map[string]impl.Tensor{
			"a valid one": tensor(1, 1, 5), "a zero": tensor(1, 1, 0), "a row of zeros": tensor(1, 2, 0, 0), "a square": tensor(2, 2, 1, 2, 3, 4),
		} {
			op := valid
			op.Value = value
			wantValue(t, name+": Value is "+what, isValidBehindTwo(op), kind == impl.OpInput)
		}
		for what, value := range map[string]impl.Tensor{
			"rows": {Rows: 1}, "columns": {Columns: 1}, "both": {Rows: 1, Columns: 1}, "negative rows": {Rows: -1}, "negative columns": {Columns: -1},
			"data": {Data: []float32{0}}, "no rows": {Columns: 1, Data: []float32{0}}, "no columns": {Rows: 1, Data: []float32{0}}, "much data": {Data: filled(300, 0)},
		} {
			op := valid
			op.Value = value
			wantValue(t, name+": Value has "+what, isValidBehindTwo(op), false)
		}
		for what, data := range map[string][]float32{"nil": nil, "empty": {}, "empty with room": filled(5, 1)[:0]} {
			op := valid
			op.Value = impl.Tensor{Data: data}
			wantValue(t, name+": Value has data that are "+what, isValidBehindTwo(op), kind != impl.OpInput)
		}
	}
}

func TestInputsAreValidTensors(t *testing.T) {
	c := chance(100)
	for _, shape := range shapes() {
		wantValue(t, "ValidTape of an input", impl.ValidTape(tapeOf(inputOp(c.anyTensor(shape[0], shape[1])))), true)
	}
	for name, broken := range brokenTapes() {
		wantValue(t, "ValidTape of "+name, impl.ValidTape(broken), false)
	}
}

func listOfShape(shape [2]int64) []int64 { return []int64{shape[0], shape[1]} }

func TestShapesThatFit(t *testing.T) {
	sides := append(shapes(), [2]int64{1, 3}, [2]int64{3, 1}, [2]int64{1, 4}, [2]int64{2, 2})
	for _, first := range sides {
		for _, second := range sides {
			v, w := inputOp(tensor(first[0], first[1], filled(int(first[0]*first[1]), 2)...)), inputOp(tensor(second[0], second[1], filled(int(second[0]*second[1]), 3)...))
			for _, kind := range allOpKinds() {
				op := simpleOps()[kind]
				if len(operandsByRule(op)) > 0 {
					op.A = 0
				}
				made, fits := shapeByRule(op, first, second)
				tape := tapeOf(v, w, op)
				name := " of the kind " + impl.Decimal(kind)
				wantValue(t, "ValidTape"+name, impl.ValidTape(tape), fits)
				lists, ok := impl.ShapesOf(tape)
				if !fits {
					wantFailed(t, "ShapesOf a tape"+name, lists, ok)
					continue
				}
				wantValue(t, "ShapesOf a tape"+name, textOfResult(lists, ok), textOfResult([][]int64{listOfShape(first), listOfShape(second), listOfShape(made)}, true))
			}
		}
	}
}

func TestShapesOf(t *testing.T) {
	shapes, ok := impl.ShapesOf(eachOpTape())
	want := [][]int64{{2, 2}, {1, 2}, {2, 2}, {2, 2}, {2, 2}, {2, 2}, {2, 2}, {2, 2}, {2, 2}, {2, 2}, {1, 1}, {1, 1}}
	wantValue(t, "ShapesOf a tape of each kind", textOfResult(shapes, ok), textOfResult(want, true))
	shapes, ok = impl.ShapesOf(tapeOf(inputOp(tensor(3, 2, 1, 2, 3, 4, 5, 6)), opOf(impl.OpTranspose, 0), opOf(impl.OpMatMul, 0, 1), opOf(impl.OpMatMul, 1, 0)))
	wantValue(t, "ShapesOf products", textOfResult(shapes, ok), textOfResult([][]int64{{3, 2}, {2, 3}, {3, 3}, {2, 2}}, true))
	c := chance(101)
	for range 300 {
		tape := c.anyTape(1 + c.below(48))
		var want [][]int64
		for _, shape := range shapesByRule(tape) {
			want = append(want, listOfShape(shape))
		}
		got, ok := impl.ShapesOf(tape)
		wantValue(t, "ShapesOf any tape", textOfResult(got, ok), textOfResult(want, true))
	}
}

func TestBrokenTapesMakeNothing(t *testing.T) {
	for name, broken := range brokenTapes() {
		for function, call := range tapeCalls() {
			if function != "ValidTape" {
				got, ok := call(broken)
				wantFailed(t, function+" of "+name, got, ok)
			}
		}
		for op := int64(-1); op <= 3; op++ {
			tape, ok := impl.ReplaceInput(broken, op, tensor(2, 2, 1, 2, 3, 4))
			wantFailed(t, "ReplaceInput of "+name, tape, ok)
			slope, ok := impl.WideSlope(append(slices.Clone(broken), opOf(impl.OpSum, 0)), op, 0, 1)
			wantFailed(t, "WideSlope of "+name, slope, ok)
		}
	}
}

func TestUsedOps(t *testing.T) {
	for _, c := range []struct {
		name string
		tape []impl.Op
		want []int64
	}{
		{"one input", tapeOf(rowOp(1)), []int64{0}},
		{"the last of two", tapeOf(rowOp(1), rowOp(2)), []int64{1}},
		{"the first of two", tapeOf(rowOp(1), rowOp(2), opOf(impl.OpRelu, 0)), []int64{0, 2}},
		{"one without operands does not use the first", tapeOf(rowOp(1), opOf(impl.OpRelu, 0), rowOp(2)), []int64{2}},
		{"one operand does not use the first", tapeOf(rowOp(1), rowOp(2), opOf(impl.OpRelu, 1)), []int64{1, 2}},
		{"A alone", tapeOf(rowOp(1), rowOp(2), opOf(impl.OpAdd, 1, 1)), []int64{1, 2}},
		{"A and B", tapeOf(rowOp(1), rowOp(2), rowOp(3), opOf(impl.OpMul, 0, 2)), []int64{0, 2, 3}},
		{"B and A", tapeOf(rowOp(1), rowOp(2), rowOp(3), opOf(impl.OpMul, 2, 0)), []int64{0, 2, 3}},
		{"a chain", tapeOf(rowOp(1), opOf(impl.OpRelu, 0), opOf(impl.OpSquare, 1), opOf(impl.OpSum, 2)), []int64{0, 1, 2, 3}},
		{"an unused end of a chain", tapeOf(rowOp(1), opOf(impl.OpRelu, 0), opOf(impl.OpSquare, 1), opOf(impl.OpSum, 0)), []int64{0, 3}},
		{"a zero is used too", tapeOf(rowOp(1), scaleOp(0, 0)), []int64{0, 1}},
		{"each kind", eachOpTape(), []int64{0, 1, 2, 3, 4, 5, 6, 7, 8, 9, 10, 11}},
	} {
		got, ok := impl.UsedOps(c.tape)
		wantListOk(t, "UsedOps, "+c.name, got, ok, c.want)
	}
}

func TestUsedOpsAreThoseThatAreReached(t *testing.T) {
	c := chance(102)
	for range 400 {
		tape := c.smallTape(1 + c.below(48))
		var want []int64
		for i, gradient := range gradientsByRule(tape) {
			if gradient != nil {
				want = append(want, int64(i))
			}
		}
		got, ok := impl.UsedOps(tape)
		wantListOk(t, "UsedOps of any tape", got, ok, want)
	}
}

func TestReplaceInput(t *testing.T) {
	tape := eachOpTape()
	other := tensor(2, 2, 0.5, nan, minusZero, infinity)
	got, ok := impl.ReplaceInput(tape, 0, other)
	want := slices.Clone(tape)
	want[0].Value = other
	wantValue(t, "ReplaceInput", textOfResult(got, ok), textOfResult(want, true))
	got, ok = impl.ReplaceInput(tape, 1, tensor(1, 2, 7, 8))
	want = slices.Clone(tape)
	want[1].Value = tensor(1, 2, 7, 8)
	wantValue(t, "ReplaceInput of the second", textOfResult(got, ok), textOfResult(want, true))
	values, ok := impl.RunTape(got)
	wantTensorOk(t, "RunTape behind ReplaceInput", values[2], ok, tensor(2, 2, 8, 6, 10, 12))
	for _, op := range append(anyIntegers(), 3, 4, 5, 6, 7, 8, 9, 10, 11, 12, 13, 47, 48, -2) {
		got, ok := impl.ReplaceInput(tape, op, tensor(2, 2, 1, 2, 3, 4))
		wantValue(t, "ReplaceInput at an index: success", ok, op == 0)
		wantValue(t, "ReplaceInput at an index: length", len(got) == len(tape), op == 0)
	}
	last, ok := impl.ReplaceInput(tapeOf(rowOp(1), rowOp(2)), 1, tensor(1, 1, 5))
	wantValue(t, "ReplaceInput of the last", textOfResult(last, ok), textOfResult(tapeOf(rowOp(1), rowOp(5)), true))
	// A field of another kind is zero also if it is an empty list with room.
	sum := opOf(impl.OpSum, 0)
	sum.Value.Data = filled(5, 1)[:0]
	got, ok = impl.ReplaceInput(tapeOf(rowOp(1), sum), 0, tensor(1, 1, 5))
	wantValue(t, "ReplaceInput beside an empty list", textOfResult(got, ok), textOfResult(tapeOf(rowOp(5), opOf(impl.OpSum, 0)), true))
}

func TestReplaceInputOfOtherShapes(t *testing.T) {
	c := chance(103)
	for _, first := range shapes() {
		tape := tapeOf(rowOp(1), inputOp(c.smallTensor(first[0], first[1])), opOf(impl.OpSum, 1))
		for _, second := range shapes() {
			value := c.anyTensor(second[0], second[1])
			got, ok := impl.ReplaceInput(tape, 1, value)
			if first != second {
				wantFailed(t, "ReplaceInput with another shape", got, ok)
				continue
			}
			wantValue(t, "ReplaceInput", textOfResult(got, ok), textOfResult(tapeOf(rowOp(1), inputOp(value), opOf(impl.OpSum, 1)), true))
		}
		for name, broken := range brokenTensors() {
			got, ok := impl.ReplaceInput(tape, 1, broken)
			wantFailed(t, "ReplaceInput with "+name, got, ok)
			broken.Rows, broken.Columns = first[0], first[1]
			if int64(len(broken.Data)) != first[0]*first[1] {
				got, ok = impl.ReplaceInput(tape, 1, broken)
				wantFailed(t, "ReplaceInput with other data", got, ok)
			}
		}
	}
}
