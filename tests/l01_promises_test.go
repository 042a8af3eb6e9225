package tests

import (
	"math"
	"slices"
	"strings"
	"testing"

	"loop.example/g01157/impl"
)

func TestExamplesOfChapter1(t *testing.T) {
	wantValue(t, "the bits of 1", impl.BitsOf(1), 1065353216)
	text, ok := impl.NumbersText([]float32{1})
	wantOk(t, "the text of 1", text, ok, "3f800000")
	wantNumber(t, "the bfloat nearest to 1.00390625", impl.BfloatOf(1.00390625), 1)
	x, ok := impl.BfloatBy(1.00390625, 32768)
	wantNumberOk(t, "the bfloat with the chance 32768", x, ok, 1.0078125)
	code, ok := impl.EightOf(impl.EightWide, 1.5)
	wantOk(t, "the code of 1.5 with EightWide", code, ok, 62)
	code, ok = impl.EightOf(impl.EightFine, 1.5)
	wantOk(t, "the code of 1.5 with EightFine", code, ok, 60)
}

func anyIntegers() []int64 {
	return []int64{
		0, 1, -1, 2, 126, 127, 128, 255, 256, 257, 65002, 65003, 65535, 65536, 2143289344, 4294967295, 4294967296,
		impl.MaxValue, impl.MaxValue + 1, -impl.MaxValue, -impl.MaxValue - 1, math.MaxInt64, math.MinInt64,
	}
}

func anyTexts() []string {
	return []string{
		"", "none", "a", "net", "abcdefgh", "abcdefghi", "0", "-0", "-1", "1,2", ",", "3f800000", "3f800000,7fc00000", "7fc00001", "\x00", "\xff\xfe",
		strings.Repeat("3f800000,", 255) + "3f800000", strings.Repeat("3f800000,", 256) + "3f800000", strings.Repeat("7,", 63) + "7", strings.Repeat("7,", 64) + "7",
		strings.Repeat(",", 100000), strings.Repeat("9", 100000), strings.Repeat("none,", 1000),
	}
}

func TestEachFunctionReturnsTheSameForAllNumbers(t *testing.T) {
	functions := map[string]func(float32) float32{
		"NextUp": impl.NextUp, "NextDown": impl.NextDown, "BfloatOf": impl.BfloatOf, "ExpNumber": impl.ExpNumber,
		"LogNumber": impl.LogNumber, "RootNumber": impl.RootNumber, "TanhNumber": impl.TanhNumber,
	}
	c := chance(9)
	list := edges()
	for range 2000 {
		list = append(list, c.number())
	}
	for _, x := range list {
		for name, function := range functions {
			checkCall(t, name, func() (float32, bool) { return alone(function(x)) })
		}
		checkCall(t, "IsFinite", func() (bool, bool) { return alone(impl.IsFinite(x)) })
		checkCall(t, "BitsOf", func() (int64, bool) { return alone(impl.BitsOf(x)) })
		checkCall(t, "SameNumber", func() (bool, bool) { return alone(impl.SameNumber(x, list[0])) })
		wide := math.Float64frombits(uint64(c.next())<<32 | uint64(c.next()))
		checkCall(t, "WideBitsOf", func() (int64, bool) { return alone(impl.WideBitsOf(wide)) })
		checkCall(t, "NarrowNumber", func() (float32, bool) { return alone(impl.NarrowNumber(wide)) })
	}
}

func TestEachFunctionReturnsTheSameForAllIntegersAndTexts(t *testing.T) {
	for _, n := range anyIntegers() {
		checkCall(t, "FromBits", func() (float32, bool) { return impl.FromBits(n) })
		checkCall(t, "Decimal", func() (string, bool) { return alone(impl.Decimal(n)) })
		checkCall(t, "ListText", func() (string, bool) { return impl.ListText([]int64{n, 1}) })
		for _, x := range edges() {
			checkCall(t, "BfloatBy", func() (float32, bool) { return impl.BfloatBy(x, n) })
			checkCall(t, "EightOf", func() (int64, bool) { return impl.EightOf(n, x) })
		}
		for _, m := range anyIntegers() {
			checkCall(t, "EightValue", func() (float32, bool) { return impl.EightValue(n, m) })
		}
		for _, s := range anyTexts() {
			checkCall(t, "CheckOf", func() (int64, bool) { return impl.CheckOf(n, s) })
		}
	}
	for _, s := range anyTexts() {
		checkCall(t, "ReadNumbers", func() ([]float32, bool) { return impl.ReadNumbers(s) })
		checkCall(t, "ReadDecimal", func() (int64, bool) { return impl.ReadDecimal(s) })
		checkCall(t, "ReadList", func() ([]int64, bool) { return impl.ReadList(s) })
		checkCall(t, "IsName", func() (bool, bool) { return alone(impl.IsName(s)) })
	}
}

func TestListsOfNumbersAreNotChanged(t *testing.T) {
	functions := map[string]func(list []float32) (any, bool){
		"SumNumbers":  func(list []float32) (any, bool) { return impl.SumNumbers(list) },
		"SumPairs":    func(list []float32) (any, bool) { return impl.SumPairs(list) },
		"SumCarried":  func(list []float32) (any, bool) { return impl.SumCarried(list) },
		"DotNumbers":  func(list []float32) (any, bool) { return impl.DotNumbers(list, list) },
		"DotWide":     func(list []float32) (any, bool) { return impl.DotWide(list, list) },
		"NumbersText": func(list []float32) (any, bool) { return impl.NumbersText(list) },
	}
	c := chance(10)
	for name, function := range functions {
		for _, count := range []int{0, 1, 2, 3, 31, impl.MaxNumbers, impl.MaxNumbers + 1} {
			list := append(edges(), c.smallList(2*impl.MaxNumbers)...)[:count]
			before := rawBits(list)
			checkCall(t, name, func() (any, bool) { return function(list) })
			if !slices.Equal(rawBits(list), before) {
				t.Errorf("%s of %d numbers changes its argument", name, count)
			}
		}
	}
}

func TestBothListsOfADotAreNotChanged(t *testing.T) {
	c := chance(11)
	for _, count := range []int{0, 1, 5, impl.MaxNumbers} {
		a, b := c.smallList(300)[:count], c.smallList(300)[:count]
		beforeA, beforeB := rawBits(a), rawBits(b)
		impl.DotNumbers(a, b)
		impl.DotWide(a, b)
		if !slices.Equal(rawBits(a), beforeA) || !slices.Equal(rawBits(b), beforeB) {
			t.Errorf("a dot of %d numbers changes its arguments", count)
		}
	}
}

func TestListsOfIntegersAreNotChanged(t *testing.T) {
	for _, count := range []int{0, 1, 3, impl.MaxItems, impl.MaxItems + 1} {
		list := make([]int64, 2*impl.MaxItems)
		for i := range list {
			list[i] = int64(1000 - 31*i)
		}
		before := slices.Clone(list)
		impl.ListText(list[:count])
		if !slices.Equal(list, before) {
			t.Errorf("ListText of %d numbers changes its argument", count)
		}
	}
}

func TestListsThatAreReadShareNoMemory(t *testing.T) {
	numbers, _ := impl.ReadNumbers("3f800000,40000000")
	others, _ := impl.ReadNumbers("3f800000,40000000")
	spoil(numbers)
	wantListOk(t, "ReadNumbers after a change of another list", others, true, []float32{1, 2})
	integers, _ := impl.ReadList("1,2")
	rest, _ := impl.ReadList("1,2")
	spoil(integers)
	wantListOk(t, "ReadList after a change of another list", rest, true, []int64{1, 2})
}
