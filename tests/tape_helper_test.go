package tests

import (
	"math"
	"slices"

	"loop.example/g01157/impl"
)

func inputOp(value impl.Tensor) impl.Op { return impl.Op{Kind: impl.OpInput, Value: value} }

// rowOp is an input of one row.
func rowOp(data ...float32) impl.Op { return inputOp(tensor(1, int64(len(data)), data...)) }

func scaleOp(a int64, number float32) impl.Op {
	return impl.Op{Kind: impl.OpScale, A: a, Number: number}
}

// opOf has A, and B if one is given.
func opOf(kind, a int64, b ...int64) impl.Op {
	op := impl.Op{Kind: kind, A: a}
	if len(b) > 0 {
		op.B = b[0]
	}
	return op
}

func tapeOf(ops ...impl.Op) []impl.Op { return ops }

func allOpKinds() []int64 { return []int64{0, 1, 2, 3, 4, 5, 6, 7, 8, 9, 10} }

// operandsByRule has the indices that the table of the document names.
func operandsByRule(op impl.Op) []int64 {
	switch op.Kind {
	case impl.OpInput:
		return nil
	case impl.OpAdd, impl.OpAddRow, impl.OpMul, impl.OpMulRow, impl.OpMatMul:
		return []int64{op.A, op.B}
	}
	return []int64{op.A}
}

// shapeByRule has the rows and columns of a value, for those of A and B, and
// whether these fit.
func shapeByRule(op impl.Op, v, w [2]int64) ([2]int64, bool) {
	switch op.Kind {
	case impl.OpInput:
		return [2]int64{op.Value.Rows, op.Value.Columns}, true
	case impl.OpAdd, impl.OpMul:
		return v, v[0] == w[0] && v[1] == w[1]
	case impl.OpAddRow, impl.OpMulRow:
		return v, w[0] == 1 && v[1] == w[1]
	case impl.OpMatMul:
		return [2]int64{v[0], w[1]}, v[1] == w[0]
	case impl.OpTranspose:
		return [2]int64{v[1], v[0]}, true
	case impl.OpSum:
		return [2]int64{1, 1}, true
	}
	return v, true
}

func shapesByRule(tape []impl.Op) [][2]int64 {
	list := make([][2]int64, len(tape))
	for i, op := range tape {
		list[i], _ = shapeByRule(op, list[op.A], list[op.B])
	}
	return list
}

func (c *chance) below(count int) int { return int(c.next()>>4) % count }

// tape returns a valid tape of count operations, whose numbers number makes.
func (c *chance) tape(count int, number func() float32) []impl.Op {
	var tape []impl.Op
	var made [][2]int64
	recent := func() int64 { return int64(len(tape) - 1 - c.below(min(len(tape), 5))) }
	for len(tape) < count {
		op := impl.Op{Kind: int64(c.below(11))}
		if len(tape) == 0 || op.Kind == impl.OpInput {
			rows, columns := int64(1+c.below(3)), int64(1+c.below(3))
			op = inputOp(tensor(rows, columns, make([]float32, rows*columns)...))
			for i := range op.Value.Data {
				op.Value.Data[i] = number()
			}
			made = append(made, [2]int64{rows, columns})
			tape = append(tape, op)
			continue
		}
		op.A = recent()
		if len(operandsByRule(op)) == 2 {
			op.B = recent()
		}
		if op.Kind == impl.OpScale {
			op.Number = number()
		}
		if shape, fits := shapeByRule(op, made[op.A], made[op.B]); fits {
			made = append(made, shape)
			tape = append(tape, op)
		}
	}
	return tape
}

// smallTape has small numbers with many bits, anyTape those of edges and of
// any bits, and wholeTape integers from -2 to 2 and both zeros.
func (c *chance) smallTape(count int) []impl.Op { return c.tape(count, c.small) }

func (c *chance) anyTape(count int) []impl.Op {
	return c.tape(count, func() float32 { return c.anyTensor(1, 1).Data[0] })
}

func (c *chance) wholeTape(count int) []impl.Op {
	return c.tape(count, func() float32 {
		return []float32{-2, -1, minusZero, 0, 1, 2, 1, -1}[c.below(8)]
	})
}

// plain is a tensor of one of both sizes of numbers, without impl.
type plain[T float32 | float64] struct {
	rows, columns int64
	data          []T
}

func (p plain[T]) at(row, column int64) T { return p.data[row*p.columns+column] }

func plainOf[T float32 | float64](rows, columns int64, at func(row, column int64) T) plain[T] {
	p := plain[T]{rows: rows, columns: columns}
	for row := range rows {
		for column := range columns {
			p.data = append(p.data, at(row, column))
		}
	}
	return p
}

// productPlain begins with +0, and rounds each product on its own.
func productPlain[T float32 | float64](a, b plain[T]) plain[T] {
	return plainOf(a.rows, b.columns, func(i, k int64) T {
		var sum T
		for j := range a.columns {
			term := T(a.at(i, j) * b.at(j, k))
			sum = T(sum + term)
		}
		return sum
	})
}

func turnedPlain[T float32 | float64](p plain[T]) plain[T] {
	return plainOf(p.columns, p.rows, func(i, k int64) T { return p.at(k, i) })
}

func columnsPlain[T float32 | float64](p plain[T]) plain[T] {
	return plainOf(1, p.columns, func(_, k int64) T {
		var sum T
		for i := range p.rows {
			sum = T(sum + p.at(i, k))
		}
		return sum
	})
}

// valueByRule makes a value as the table of the document tells.
func valueByRule[T float32 | float64](op impl.Op, v, w plain[T]) plain[T] {
	each := func(at func(i, k int64) T) plain[T] { return plainOf(v.rows, v.columns, at) }
	switch op.Kind {
	case impl.OpInput:
		return plainOf(op.Value.Rows, op.Value.Columns, func(i, k int64) T { return T(numberAt(op.Value, i, k)) })
	case impl.OpAdd:
		return each(func(i, k int64) T { return v.at(i, k) + w.at(i, k) })
	case impl.OpAddRow:
		return each(func(i, k int64) T { return v.at(i, k) + w.at(0, k) })
	case impl.OpMul:
		return each(func(i, k int64) T { return v.at(i, k) * w.at(i, k) })
	case impl.OpMulRow:
		return each(func(i, k int64) T { return v.at(i, k) * w.at(0, k) })
	case impl.OpScale:
		return each(func(i, k int64) T { return v.at(i, k) * T(op.Number) })
	case impl.OpMatMul:
		return productPlain(v, w)
	case impl.OpTranspose:
		return turnedPlain(v)
	case impl.OpRelu:
		return each(func(i, k int64) T {
			if x := v.at(i, k); !(x <= 0) {
				return x
			}
			return 0
		})
	case impl.OpSquare:
		return each(func(i, k int64) T { return v.at(i, k) * v.at(i, k) })
	}
	var sum T
	for _, x := range v.data {
		sum = T(sum + x)
	}
	return plain[T]{1, 1, []T{sum}}
}

func valuesByRule[T float32 | float64](tape []impl.Op) []plain[T] {
	values := make([]plain[T], len(tape))
	for i, op := range tape {
		values[i] = valueByRule(op, values[op.A], values[op.B])
	}
	return values
}

// gradientForA and gradientForB are the last two columns of the table of the
// document.
func gradientForA(op impl.Op, v, w, g plain[float32]) plain[float32] {
	each := func(at func(i, k int64) float32) plain[float32] { return plainOf(v.rows, v.columns, at) }
	switch op.Kind {
	case impl.OpMul:
		return each(func(i, k int64) float32 { return g.at(i, k) * w.at(i, k) })
	case impl.OpMulRow:
		return each(func(i, k int64) float32 { return g.at(i, k) * w.at(0, k) })
	case impl.OpScale:
		return each(func(i, k int64) float32 { return g.at(i, k) * op.Number })
	case impl.OpMatMul:
		return productPlain(g, turnedPlain(w))
	case impl.OpTranspose:
		return turnedPlain(g)
	case impl.OpRelu:
		return each(func(i, k int64) float32 {
			if v.at(i, k) > 0 {
				return g.at(i, k)
			}
			return 0
		})
	case impl.OpSquare:
		return each(func(i, k int64) float32 {
			twice := float32(v.at(i, k) + v.at(i, k))
			return float32(g.at(i, k) * twice)
		})
	case impl.OpSum:
		return each(func(_, _ int64) float32 { return g.data[0] })
	}
	return g
}

func gradientForB(op impl.Op, v, _, g plain[float32]) plain[float32] {
	product := func(i, k int64) float32 { return g.at(i, k) * v.at(i, k) }
	switch op.Kind {
	case impl.OpAddRow:
		return columnsPlain(g)
	case impl.OpMul:
		return plainOf(v.rows, v.columns, product)
	case impl.OpMulRow:
		return columnsPlain(plainOf(v.rows, v.columns, product))
	case impl.OpMatMul:
		return productPlain(turnedPlain(v), g)
	}
	return g
}

// gradientsByRule has each operation collect, from the last operation to the
// first one, what those that use it contribute. It has nil for those without
// a contribution.
func gradientsByRule(tape []impl.Op) []*plain[float32] {
	values := valuesByRule[float32](tape)
	gradients := make([]*plain[float32], len(tape))
	for i := range slices.Backward(tape) {
		var sum *plain[float32]
		collect := func(part plain[float32]) {
			if sum != nil {
				before := *sum
				part = plainOf(part.rows, part.columns, func(r, c int64) float32 { return before.at(r, c) + part.at(r, c) })
			}
			sum = &part
		}
		if i == len(tape)-1 {
			collect(plainOf(values[i].rows, values[i].columns, func(_, _ int64) float32 { return 1 }))
		}
		for later := len(tape) - 1; later > i; later-- {
			op, g := tape[later], gradients[later]
			if g == nil {
				continue
			}
			for k, operand := range operandsByRule(op) {
				if operand == int64(i) && k == 0 {
					collect(gradientForA(op, values[op.A], values[op.B], *g))
				} else if operand == int64(i) {
					collect(gradientForB(op, values[op.A], values[op.B], *g))
				}
			}
		}
		gradients[i] = sum
	}
	return gradients
}

// tensorsByRule returns the values or gradients as tensors, with numbers +0
// where there are none.
func tensorsByRule(tape []impl.Op, list []*plain[float32]) []impl.Tensor {
	var tensors []impl.Tensor
	for i, shape := range shapesByRule(tape) {
		data := make([]float32, shape[0]*shape[1])
		if list[i] != nil {
			data = list[i].data
		}
		tensors = append(tensors, tensor(shape[0], shape[1], data...))
	}
	return tensors
}

// roomyTape returns a copy of a tape with unused capacity everywhere.
func roomyTape(tape []impl.Op) []impl.Op {
	ops := make([]impl.Op, 0, len(tape)+5)
	for _, op := range tape {
		if len(op.Value.Data) < 1000 {
			op.Value = roomy(op.Value)
		}
		ops = append(ops, op)
	}
	for i := len(ops); i < cap(ops); i++ {
		ops[:cap(ops)][i] = inputOp(tensor(3, 2, 9))
	}
	return ops
}

// rawTape shows all of a tape, with its unused capacity.
func rawTape(tape []impl.Op) string {
	text := ""
	for _, op := range tape[:cap(tape)] {
		text += textOfResult(op, rawBits([]float32{op.Number}), rawBits(op.Value.Data))
	}
	return text
}

// eachOpTape has one operation of each kind, each of which is used.
func eachOpTape() []impl.Op {
	return tapeOf(
		inputOp(tensor(2, 2, 1, -2, 3, 4)), rowOp(5, -1),
		opOf(impl.OpAddRow, 0, 1), opOf(impl.OpMulRow, 2, 1), opOf(impl.OpTranspose, 3), opOf(impl.OpMatMul, 4, 0),
		opOf(impl.OpAdd, 5, 2), opOf(impl.OpMul, 6, 0), opOf(impl.OpRelu, 7), opOf(impl.OpSquare, 8), opOf(impl.OpSum, 9), scaleOp(10, 0.25))
}

// brokenTapes has tapes that differ from valid ones in one way each.
func brokenTapes() map[string][]impl.Op {
	square, row := inputOp(tensor(2, 2, 1, 2, 3, 4)), rowOp(1, 2, 3)
	list := map[string][]impl.Op{
		"no tape":               nil,
		"no operations":         {},
		"one too many":          slices.Repeat(tapeOf(square), 49),
		"many":                  slices.Repeat(tapeOf(square), 1000),
		"a kind before first":   tapeOf(square, opOf(-1, 0)),
		"a kind behind last":    tapeOf(square, opOf(11, 0)),
		"the greatest kind":     tapeOf(square, opOf(math.MaxInt64, 0)),
		"the least kind":        tapeOf(square, opOf(math.MinInt64, 0)),
		"a kind without fields": tapeOf(impl.Op{Kind: -1}),
		"an operation alone":    tapeOf(opOf(impl.OpRelu, 0)),
		"two alone":             tapeOf(opOf(impl.OpAdd, 0, 0)),
		"a break in between":    tapeOf(square, opOf(impl.OpAdd, 0, 2), opOf(impl.OpRelu, 0)),
		"a row of another size": tapeOf(square, row, opOf(impl.OpAddRow, 0, 1)),
		"an unused break":       tapeOf(square, row, opOf(impl.OpMul, 0, 1), opOf(impl.OpRelu, 0)),
	}
	for name, broken := range brokenTensors() {
		list["alone: "+name] = tapeOf(inputOp(broken))
		list["behind one: "+name] = tapeOf(square, inputOp(broken))
		list["before one: "+name] = tapeOf(inputOp(broken), square)
		list["used: "+name] = tapeOf(inputOp(broken), opOf(impl.OpSum, 0))
	}
	return list
}
