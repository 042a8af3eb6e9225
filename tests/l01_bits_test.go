package tests

import (
	"fmt"
	"math"
	"testing"

	"loop.example/g01157/impl"
)

func TestSameNumberOfAllPairs(t *testing.T) {
	for _, a := range edges() {
		for _, b := range edges() {
			wantValue(t, fmt.Sprintf("SameNumber(%08x, %08x)", math.Float32bits(a), math.Float32bits(b)), impl.SameNumber(a, b), same(a, b))
		}
	}
	wantValue(t, "zeros with both signs", impl.SameNumber(0, minusZero), false)
	wantValue(t, "not-a-numbers with other bits", impl.SameNumber(of(0x7f800001), of(0xffffffff)), true)
	wantValue(t, "infinities with both signs", impl.SameNumber(infinity, -infinity), false)
}

func TestIsFinite(t *testing.T) {
	for _, x := range []float32{0, minusZero, least, -least, 1, -1, greatest, -greatest} {
		wantValue(t, fmt.Sprintf("IsFinite(%g)", x), impl.IsFinite(x), true)
	}
	for _, x := range []float32{infinity, -infinity, nan, of(0xffc00000), of(0x7f800001), of(0xff800001), of(0xffffffff)} {
		wantValue(t, fmt.Sprintf("IsFinite(%g)", x), impl.IsFinite(x), false)
	}
}

func TestBitsOf(t *testing.T) {
	cases := []struct {
		x    float32
		bits int64
	}{
		{0, 0}, {minusZero, 2147483648}, {1, 1065353216}, {-2, 3221225472}, {least, 1}, {-least, 2147483649},
		{greatest, 2139095039}, {-greatest, 4286578687}, {infinity, 2139095040}, {-infinity, 4286578688},
		{nan, 2143289344}, {of(0xffc00000), 2143289344}, {of(0x7f800001), 2143289344}, {of(0xff800001), 2143289344},
		{of(0x7fffffff), 2143289344}, {of(0xffffffff), 2143289344},
	}
	for _, c := range cases {
		wantValue(t, fmt.Sprintf("BitsOf(%g)", c.x), impl.BitsOf(c.x), c.bits)
	}
}

func TestFromBits(t *testing.T) {
	for _, x := range edges() {
		got, ok := impl.FromBits(int64(math.Float32bits(x)))
		wantNumberOk(t, fmt.Sprintf("FromBits(%08x)", math.Float32bits(x)), got, ok, x)
	}
	for _, bits := range []int64{-1, 4294967296, math.MinInt64, math.MaxInt64, 1<<32 + 1065353216} {
		got, ok := impl.FromBits(bits)
		wantFailure(t, fmt.Sprintf("FromBits(%d)", bits), got, ok)
	}
}

func TestBitsGoBothWays(t *testing.T) {
	c := chance(1)
	for range 20000 {
		x := c.number()
		got, ok := impl.FromBits(impl.BitsOf(x))
		wantNumberOk(t, "FromBits of BitsOf", got, ok, x)
	}
}

func TestWideBitsOf(t *testing.T) {
	cases := []struct {
		x    float64
		bits int64
	}{
		{0, 0}, {math.Copysign(0, -1), math.MinInt64}, {1, 4607182418800017408}, {-1, -4616189618054758400},
		{math.SmallestNonzeroFloat64, 1}, {-math.SmallestNonzeroFloat64, math.MinInt64 + 1},
		{math.MaxFloat64, 9218868437227405311}, {-math.MaxFloat64, -4503599627370497},
		{math.Inf(1), 9218868437227405312}, {math.Inf(-1), -4503599627370496},
		{math.NaN(), 9221120237041090560}, {math.Float64frombits(0x7ff0000000000001), 9221120237041090560},
		{math.Float64frombits(0xffffffffffffffff), 9221120237041090560},
		{math.Float64frombits(0xfff8000000000000), 9221120237041090560},
	}
	for _, c := range cases {
		wantValue(t, fmt.Sprintf("WideBitsOf(%g)", c.x), impl.WideBitsOf(c.x), c.bits)
	}
}

func TestNarrowNumber(t *testing.T) {
	half := math.Ldexp(1, 103) // a half of the distance of the greatest numbers
	cases := []struct {
		x    float64
		want float32
	}{
		{0, 0}, {math.Copysign(0, -1), minusZero}, {0.5, 0.5}, {-3, -3},
		{1 + math.Ldexp(1, -24), 1}, // a tie goes to the even one, below
		{1 + 3*math.Ldexp(1, -24), of(0x3f800002)},
		{1 + math.Ldexp(1, -24) + math.Ldexp(1, -52), of(0x3f800001)},
		{-1 - math.Ldexp(1, -24), -1},
		{math.MaxFloat32, greatest}, {math.MaxFloat32 + half, infinity}, {-math.MaxFloat32 - half, -infinity},
		{math.Nextafter(math.MaxFloat32+half, 0), greatest}, {-math.Nextafter(math.MaxFloat32+half, 0), -greatest},
		{math.MaxFloat64, infinity}, {math.Inf(1), infinity}, {math.Inf(-1), -infinity},
		{math.Ldexp(1, -149), least}, {math.Ldexp(1, -150), 0}, {-math.Ldexp(1, -150), minusZero},
		{math.Nextafter(math.Ldexp(1, -150), 1), least}, {3 * math.Ldexp(1, -150), of(2)},
		{math.SmallestNonzeroFloat64, 0}, {-math.SmallestNonzeroFloat64, minusZero},
		{math.NaN(), nan}, {math.Float64frombits(0xfff0000000000001), nan},
	}
	for _, c := range cases {
		wantNumber(t, fmt.Sprintf("NarrowNumber(%g)", c.x), impl.NarrowNumber(c.x), c.want)
	}
}

func TestNextUpAndDownAtEdges(t *testing.T) {
	cases := []struct{ x, up, down float32 }{
		{0, least, -least}, {minusZero, least, -least}, {least, of(2), 0}, {-least, minusZero, -of(2)},
		{1, of(0x3f800001), of(0x3f7fffff)}, {-1, of(0xbf7fffff), of(0xbf800001)},
		{of(0x007fffff), of(0x00800000), of(0x007ffffe)}, {greatest, infinity, of(0x7f7ffffe)},
		{-greatest, of(0xff7ffffe), -infinity}, {infinity, infinity, greatest}, {-infinity, -greatest, -infinity},
		{nan, nan, nan}, {of(0x7f800001), nan, nan}, {of(0xffffffff), nan, nan}, {of(0xff800001), nan, nan},
	}
	for _, c := range cases {
		wantNumber(t, fmt.Sprintf("NextUp(%g)", c.x), impl.NextUp(c.x), c.up)
		wantNumber(t, fmt.Sprintf("NextDown(%g)", c.x), impl.NextDown(c.x), c.down)
	}
}

func TestNextUpIsTheLeastGreaterNumber(t *testing.T) {
	c := chance(2)
	for range 20000 {
		x := c.number()
		if isNan(x) {
			continue
		}
		want := math.Nextafter32(x, infinity)
		if want == 0 {
			want = minusZero
		}
		wantNumber(t, fmt.Sprintf("NextUp(%g)", x), impl.NextUp(x), want)
		wantNumber(t, fmt.Sprintf("NextDown(%g)", -x), impl.NextDown(-x), -want)
	}
}
