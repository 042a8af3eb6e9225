package tests

import (
	"fmt"
	"math"
	"slices"
	"strings"
	"testing"

	"loop.example/g01157/impl"
)

// textOfResult shows results with the bits of their numbers, so that two are
// equal just if their texts are.
func textOfResult(results ...any) string {
	var text strings.Builder
	for _, result := range results {
		switch value := result.(type) {
		case float32:
			fmt.Fprintf(&text, "%08x;", impl.BitsOf(value))
		case []float32:
			fmt.Fprintf(&text, "%08x;", bitsOfList(value))
		case impl.Tensor:
			fmt.Fprintf(&text, "%d*%d:%08x;", value.Rows, value.Columns, bitsOfList(value.Data))
		case [][]float32:
			fmt.Fprintf(&text, "%d lists:", len(value))
			for _, list := range value {
				text.WriteString(textOfResult(list))
			}
		case impl.Layer:
			fmt.Fprintf(&text, "%d %d>%d:%s", value.Kind, value.In, value.Out, textOfResult(value.Weights, value.Bias))
		case impl.Model:
			fmt.Fprintf(&text, "%d layers:", len(value.Layers))
			for _, layer := range value.Layers {
				text.WriteString(textOfResult(layer))
			}
		case impl.PlanStep:
			fmt.Fprintf(&text, "%d %d>%d %t:%s", value.Kind, value.In, value.Out, value.Relu, textOfResult(value.Weights, value.Bias, value.Scales))
		case impl.Plan:
			fmt.Fprintf(&text, "%d steps:", len(value.Steps))
			for _, step := range value.Steps {
				text.WriteString(textOfResult(step))
			}
		case impl.Examples:
			text.WriteString(textOfResult(value.Inputs, value.Targets))
		case impl.TrainState:
			fmt.Fprintf(&text, "behind %d with %d:%s", value.Steps, value.Seed, textOfResult(value.Scale, value.Model, value.Slots))
		case impl.Lab:
			fmt.Fprintf(&text, "lab of kind %d:%s", value.Optimizer.Kind, textOfResult(numbersOfOptimizer(value.Optimizer), value.Data, value.State))
		case []impl.Tensor:
			fmt.Fprintf(&text, "%d tensors:", len(value))
			for _, tensor := range value {
				text.WriteString(textOfResult(tensor))
			}
		case impl.Op:
			fmt.Fprintf(&text, "%d of %d and %d:%s", value.Kind, value.A, value.B, textOfResult(value.Number, value.Value))
		case []impl.Op:
			fmt.Fprintf(&text, "%d operations:", len(value))
			for _, op := range value {
				text.WriteString(textOfResult(op))
			}
		case []string:
			fmt.Fprintf(&text, "%q;", value)
		case impl.Request:
			fmt.Fprintf(&text, "at %d:%s", value.At, textOfResult(value.Row))
		case impl.Answer:
			fmt.Fprintf(&text, "at %d in %d:%s", value.At, value.Batch, textOfResult(value.Row))
		case []impl.Answer:
			fmt.Fprintf(&text, "%d answers:", len(value))
			for _, answer := range value {
				text.WriteString(textOfResult(answer))
			}
		case several:
			text.WriteString(textOfResult(value...))
		default:
			fmt.Fprintf(&text, "%v;", value)
		}
	}
	return text.String()
}

// isZeroResult reports whether a result is a zero value.
func isZeroResult(result any) bool {
	switch value := result.(type) {
	case float32:
		return math.Float32bits(value) == 0
	case float64:
		return math.Float64bits(value) == 0
	case int64:
		return value == 0
	case string:
		return value == ""
	case []float32:
		return len(value) == 0
	case []int64:
		return len(value) == 0
	case impl.Tensor:
		return value.Rows == 0 && value.Columns == 0 && len(value.Data) == 0
	case [][]float32:
		return len(value) == 0
	case impl.Layer:
		return isZeroResult(several{value.Kind, value.In, value.Out, value.Weights, value.Bias})
	case impl.Model:
		return len(value.Layers) == 0
	case impl.Plan:
		return len(value.Steps) == 0
	case impl.LossScale:
		return math.Float32bits(value.Scale) == 0 && value == impl.LossScale{}
	case impl.Examples:
		return isZeroResult(several{value.Inputs, value.Targets})
	case impl.TrainState:
		return isZeroResult(several{value.Model, value.Slots, value.Steps, value.Seed, value.Scale})
	case impl.Lab:
		return value.Optimizer.Kind == 0 && textOfResult(numbersOfOptimizer(value.Optimizer)) == textOfResult(filled(4, 0)) && isZeroResult(several{value.Data, value.State})
	case bool:
		return !value
	case []float64:
		return len(value) == 0
	case [][]int64:
		return len(value) == 0
	case []impl.Tensor:
		return len(value) == 0
	case []impl.Op:
		return len(value) == 0
	case []string:
		return len(value) == 0
	case []impl.Answer:
		return len(value) == 0
	case several:
		return !slices.ContainsFunc(value, func(part any) bool { return !isZeroResult(part) })
	}
	return false
}

// several is what a function with several results besides its success
// returns.
type several []any

// checkCall calls twice, and requires equal results, and a zero value if the
// call fails. What a call returns first is spoilt before the second call and
// behind it: the second result is another one if both share memory, or if the
// first one shares it with an argument.
func checkCall[T any](t *testing.T, name string, call func() (T, bool)) {
	t.Helper()
	defer func() {
		if reason := recover(); reason != nil {
			t.Errorf("%s: panic: %v", name, reason)
		}
	}()
	first, ok := call()
	text := textOfResult(first, ok)
	if !ok && !isZeroResult(first) {
		t.Errorf("%s fails with %v", name, first)
	}
	spoil(first)
	second, ok := call()
	wantValue(t, name+" again", textOfResult(second, ok), text)
	spoil(first)
	wantValue(t, name+" behind a change of the first result", textOfResult(second, ok), text)
}

func spoil(result any) {
	switch list := result.(type) {
	case []float32:
		for i := range list[:cap(list)] {
			list[:cap(list)][i] = -77
		}
	case []int64:
		for i := range list[:cap(list)] {
			list[:cap(list)][i] = -77
		}
	case impl.Tensor:
		spoil(list.Data)
	case [][]float32:
		for _, part := range list[:cap(list)] {
			spoil(part)
		}
		clear(list[:cap(list)])
	case impl.Layer:
		spoil(list.Weights)
		spoil(list.Bias)
	case impl.Model:
		for _, layer := range list.Layers[:cap(list.Layers)] {
			spoil(layer)
		}
		clear(list.Layers[:cap(list.Layers)])
	case impl.Plan:
		for _, step := range list.Steps[:cap(list.Steps)] {
			spoil(step.Weights)
			spoil(step.Bias)
			spoil(step.Scales)
		}
		clear(list.Steps[:cap(list.Steps)])
	case impl.Examples:
		spoil(list.Inputs)
		spoil(list.Targets)
	case impl.TrainState:
		spoil(list.Model)
		spoil(list.Slots)
	case impl.Lab:
		spoil(list.Data)
		spoil(list.State)
	case []float64:
		for i := range list[:cap(list)] {
			list[:cap(list)][i] = -77
		}
	case [][]int64:
		for _, part := range list[:cap(list)] {
			spoil(part)
		}
		clear(list[:cap(list)])
	case []impl.Tensor:
		for _, part := range list[:cap(list)] {
			spoil(part)
		}
		clear(list[:cap(list)])
	case []impl.Op:
		for _, op := range list[:cap(list)] {
			spoil(op.Value)
		}
		clear(list[:cap(list)])
	case []string:
		clear(list[:cap(list)])
	case []impl.Answer:
		for _, answer := range list[:cap(list)] {
			spoil(answer.Row)
		}
		clear(list[:cap(list)])
	case several:
		for _, part := range list {
			spoil(part)
		}
	}
}

// wantApart requires that no two of the slices of a result share memory: when
// one is spoilt, with its unused capacity, the others stay as they are.
func wantApart[T any](t *testing.T, what string, parts [][]T) {
	t.Helper()
	for i, part := range parts {
		var others [][]T
		for k, other := range parts {
			if k != i {
				others = append(others, other)
			}
		}
		before := textOfResult(others)
		spoil(part)
		wantValue(t, what+" apart", textOfResult(others), before)
	}
}

// alone makes a function without a success one that succeeds.
func alone[T any](value T) (T, bool) { return value, true }

// rawBits returns the bits of a list and of its unused capacity, also those
// of not-a-numbers.
func rawBits(list []float32) []uint32 {
	var bits []uint32
	for _, x := range list[:cap(list)] {
		bits = append(bits, math.Float32bits(x))
	}
	return bits
}
