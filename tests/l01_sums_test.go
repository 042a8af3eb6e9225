package tests

import (
	"testing"

	"loop.example/g01157/impl"
)

type sumCase struct {
	name                    string
	list                    []float32
	inOrder, pairs, carried float32
}

func sumCases() []sumCase {
	const big = 16777216 // its next greater number is 2 away
	return []sumCase{
		{"none", nil, 0, 0, 0},
		{"empty", []float32{}, 0, 0, 0},
		{"one", []float32{2.5}, 2.5, 2.5, 2.5},
		{"one -0", []float32{minusZero}, 0, minusZero, 0},
		{"two -0", []float32{minusZero, minusZero}, 0, minusZero, 0},
		{"three", []float32{1, 2, 3.5}, 6.5, 6.5, 6.5},
		{"big first", []float32{big, 1, 1}, big, big, big + 2},
		{"big last", []float32{1, 1, big}, big + 2, big + 2, big + 2},
		{"four in pairs", []float32{big, 1, 1, 1}, big, big + 2, big + 4},
		{"five in pairs", []float32{big, 1, 1, 1, 1}, big, big + 2, big + 4},
		{"six in pairs", []float32{big, 1, 1, big, 1, 1}, 2 * big, 2 * big, 2*big + 4},
		{"no carry through infinity", []float32{infinity, 1}, infinity, infinity, nan},
		{"both infinities", []float32{infinity, -infinity}, nan, nan, nan},
		{"infinity last", []float32{1, -infinity}, -infinity, -infinity, -infinity},
		{"a not-a-number", []float32{1, of(0xff800001), 2}, nan, nan, nan},
		{"over the greatest", []float32{greatest, greatest, -greatest}, infinity, infinity, nan},
		{"over it in pairs", []float32{greatest, -greatest, greatest, greatest}, infinity, infinity, infinity},
		{"least ones", []float32{least, least, -least}, least, least, least},
		{"taken away", []float32{1, -1}, 0, 0, 0},
	}
}

func TestSums(t *testing.T) {
	for _, c := range sumCases() {
		got, ok := impl.SumNumbers(c.list)
		wantNumberOk(t, "SumNumbers of "+c.name, got, ok, c.inOrder)
		got, ok = impl.SumPairs(c.list)
		wantNumberOk(t, "SumPairs of "+c.name, got, ok, c.pairs)
		got, ok = impl.SumCarried(c.list)
		wantNumberOk(t, "SumCarried of "+c.name, got, ok, c.carried)
	}
}

// pairsByRule is the rule of SumPairs with copies of the halves.
func pairsByRule(list []float32) float32 {
	if len(list) == 0 {
		return 0
	}
	if len(list) == 1 {
		return list[0]
	}
	var first, second []float32
	for i, x := range list {
		if 2*i < len(list) {
			first = append(first, x)
		} else {
			second = append(second, x)
		}
	}
	return pairsByRule(first) + pairsByRule(second)
}

func TestSumsOfEachLength(t *testing.T) {
	c := chance(3)
	for count := range impl.MaxNumbers + 1 {
		list := c.smallList(count)
		var inOrder, sum, lost float32
		for _, x := range list {
			inOrder = inOrder + x
			y := x - lost
			next := sum + y
			lost = (next - sum) - y
			sum = next
		}
		got, ok := impl.SumNumbers(list)
		wantNumberOk(t, "SumNumbers", got, ok, inOrder)
		got, ok = impl.SumPairs(list)
		wantNumberOk(t, "SumPairs", got, ok, pairsByRule(list))
		got, ok = impl.SumCarried(list)
		wantNumberOk(t, "SumCarried", got, ok, sum)
	}
}

func TestSumsOfTooManyNumbers(t *testing.T) {
	sums := map[string]func([]float32) (float32, bool){
		"SumNumbers": impl.SumNumbers, "SumPairs": impl.SumPairs, "SumCarried": impl.SumCarried,
	}
	for name, sum := range sums {
		got, ok := sum(filled(impl.MaxNumbers, 1))
		wantNumberOk(t, name+" of MaxNumbers", got, ok, 256)
		got, ok = sum(filled(impl.MaxNumbers+1, 1))
		wantFailure(t, name+" of one more", got, ok)
	}
}

type dotCase struct {
	name       string
	a, b       []float32
	dot, wider float32
}

func dotCases() []dotCase {
	third := of(0x3eaaaaab)
	return []dotCase{
		{"none", nil, []float32{}, 0, 0},
		{"two", []float32{1, 2}, []float32{3, 4}, 11, 11},
		{"-0", []float32{minusZero}, []float32{1}, 0, 0},
		{"big first", []float32{16777216, 1, 1}, []float32{1, 1, 1}, 16777216, 16777218},
		{"a rounded product", []float32{third, -1}, []float32{3, 1}, 0, of(0x33000000)},
		{"a product that is rounded before the sum", []float32{1, -1}, []float32{of(0x3f800001), of(0x3f800001)}, 0, 0},
		{"a lost square", []float32{-1, of(0x3f800001)}, []float32{of(0x3f800002), of(0x3f800001)}, 0, of(0x28800000)},
		{"over the greatest between", []float32{greatest, greatest}, []float32{2, -2}, nan, 0},
		{"over the greatest", []float32{greatest}, []float32{2}, infinity, infinity},
		{"under the least between", []float32{least, 0.5}, []float32{0.5, least}, 0, least},
		{"zero times infinity", []float32{0}, []float32{infinity}, nan, nan},
		{"both infinities", []float32{infinity, 1}, []float32{1, -infinity}, nan, nan},
		{"a not-a-number", []float32{1, of(0x7f800001)}, []float32{1, 0}, nan, nan},
	}
}

func TestDots(t *testing.T) {
	for _, c := range dotCases() {
		got, ok := impl.DotNumbers(c.a, c.b)
		wantNumberOk(t, "DotNumbers of "+c.name, got, ok, c.dot)
		got, ok = impl.DotWide(c.a, c.b)
		wantNumberOk(t, "DotWide of "+c.name, got, ok, c.wider)
	}
}

func TestDotsOfEachLength(t *testing.T) {
	c := chance(4)
	for count := range impl.MaxNumbers + 1 {
		a, b := c.smallList(count), c.smallList(count)
		var sum float32
		var wide float64
		for i := range a {
			product := float32(a[i] * b[i])
			sum = sum + product
			wide = wide + float64(float64(a[i])*float64(b[i]))
		}
		got, ok := impl.DotNumbers(a, b)
		wantNumberOk(t, "DotNumbers", got, ok, sum)
		got, ok = impl.DotWide(a, b)
		wantNumberOk(t, "DotWide", got, ok, float32(wide))
	}
}

func TestDotsOfOtherLengths(t *testing.T) {
	dots := map[string]func(a, b []float32) (float32, bool){"DotNumbers": impl.DotNumbers, "DotWide": impl.DotWide}
	full, over := filled(impl.MaxNumbers, 1), filled(impl.MaxNumbers+1, 1)
	for name, dot := range dots {
		got, ok := dot(full, full)
		wantNumberOk(t, name+" of MaxNumbers", got, ok, 256)
		for _, pair := range [][2][]float32{{over, over}, {full, over}, {over, full}, {nil, full}, {{1}, nil}, {{1}, {1, 2}}, {{1, 2}, {1}}} {
			got, ok = dot(pair[0], pair[1])
			wantFailure(t, name+" of lists with other lengths", got, ok)
		}
	}
}
