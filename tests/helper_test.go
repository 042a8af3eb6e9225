package tests

import (
	"math"
	"testing"

	"loop.example/g01157/impl"
)

// of returns the number with the given bits, also those of a not-a-number.
func of(bits uint32) float32 { return math.Float32frombits(bits) }

var (
	minusZero = of(0x80000000)
	infinity  = of(0x7f800000)
	nan       = of(0x7fc00000)
	least     = of(0x00000001)
	greatest  = of(0x7f7fffff)
)

// edges has the numbers that the document names, and neighbours of them.
func edges() []float32 {
	return []float32{
		0, minusZero, least, -least, of(0x00000002), of(0x007fffff), of(0x00800000), of(0x80800000),
		1, -1, of(0x3f7fffff), of(0x3f800001), 0.5, 2, 16777216, 16777217, 1.00390625, -1.01171875,
		of(0x7f7f0000), of(0x7f7f7fff), of(0x7f7f8000), greatest, -greatest, of(0x7f7ffffe),
		infinity, -infinity, nan, of(0xffc00000), of(0x7f800001), of(0xff800001), of(0x7fffffff), of(0xffffffff),
	}
}

// chance returns numbers that follow a rule of their own, so that a test has
// the same ones in each run.
type chance uint64

func (c *chance) next() uint32 {
	*c = *c*6364136223846793005 + 1442695040888963407
	return uint32(*c >> 32)
}

// number returns a number of any size, of any sign, or a not-a-number.
func (c *chance) number() float32 { return of(c.next()) }

// small returns a number from -8 to 8 with many bits.
func (c *chance) small() float32 { return float32(int32(c.next())) / (1 << 28) }

func (c *chance) smallList(count int) []float32 {
	list := make([]float32, count)
	for i := range list {
		list[i] = c.small()
	}
	return list
}

func isNan(x float32) bool { return x != x }

// same is the document's rule for equal numbers, written without impl.
func same(a, b float32) bool {
	if isNan(a) || isNan(b) {
		return isNan(a) && isNan(b)
	}
	return a == b && math.Signbit(float64(a)) == math.Signbit(float64(b))
}

func wantNumber(t *testing.T, what string, got, want float32) {
	t.Helper()
	if !same(got, want) {
		t.Errorf("%s: got %g (%08x), want %g (%08x)", what, got, math.Float32bits(got), want, math.Float32bits(want))
	}
}

func wantValue[T comparable](t *testing.T, what string, got, want T) {
	t.Helper()
	if got != want {
		t.Errorf("%s: got %v, want %v", what, got, want)
	}
}

// wantNumberOk requires a call to have succeeded with a number.
func wantNumberOk(t *testing.T, what string, got float32, ok bool, want float32) {
	t.Helper()
	wantValue(t, what+": success", ok, true)
	wantNumber(t, what, got, want)
}

// wantOk requires a call to have succeeded with a value.
func wantOk[T comparable](t *testing.T, what string, got T, ok bool, want T) {
	t.Helper()
	wantValue(t, what+": success", ok, true)
	wantValue(t, what, got, want)
}

// wantFailure requires a call to have failed with the zero value.
func wantFailure[T comparable](t *testing.T, what string, got T, ok bool) {
	t.Helper()
	var zero T
	wantValue(t, what+": success", ok, false)
	wantValue(t, what+": value", got, zero)
}

func wantListOk[T comparable](t *testing.T, what string, got []T, ok bool, want []T) {
	t.Helper()
	wantValue(t, what+": success", ok, true)
	wantValue(t, what+": length", len(got), len(want))
	for i := range min(len(got), len(want)) {
		wantValue(t, what+": item", got[i], want[i])
	}
}

func wantListFailure[T any](t *testing.T, what string, got []T, ok bool) {
	t.Helper()
	wantValue(t, what+": success", ok, false)
	wantValue(t, what+": length", len(got), 0)
}

// bitsOfList returns the bits of numbers as a list that can be compared.
func bitsOfList(list []float32) []int64 {
	bits := make([]int64, len(list))
	for i, x := range list {
		bits[i] = impl.BitsOf(x)
	}
	return bits
}

func filled(count int, x float32) []float32 {
	list := make([]float32, count)
	for i := range list {
		list[i] = x
	}
	return list
}
