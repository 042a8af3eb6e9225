package tests

import (
	"fmt"
	"math"
	"testing"

	"loop.example/g01157/impl"
)

// Each pair has the bits of an argument and of its result. They have been
// computed apart from this program, in 64-bit numbers of another language.
// Some arguments are ones for which other ways to compute the function, as
// with more or fewer terms, fused operations or package math, narrow to
// another number.
type bitsPair struct{ x, want uint32 }

func checkBits(t *testing.T, name string, function func(float32) float32, pairs []bitsPair) {
	t.Helper()
	for _, pair := range pairs {
		wantNumber(t, fmt.Sprintf("%s(%08x)", name, pair.x), function(of(pair.x)), of(pair.want))
	}
	for _, x := range []float32{nan, of(0xffc00000), of(0x7f800001), of(0xff800001), of(0x7fffffff), of(0xffffffff)} {
		wantNumber(t, name+" of a not-a-number", function(x), nan)
	}
}

func TestExpNumber(t *testing.T) {
	checkBits(t, "ExpNumber", impl.ExpNumber, []bitsPair{
		{0x00000000, 0x3f800000}, {0x80000000, 0x3f800000}, {0x00000001, 0x3f800000}, {0x80000001, 0x3f800000},
		{0x7f7fffff, 0x7f800000}, {0xff7fffff, 0x00000000}, {0x7f800000, 0x7f800000}, {0xff800000, 0x00000000},
		{0x3f800000, 0x402df854}, {0xbf800000, 0x3ebc5ab2}, {0x40000000, 0x40ec7326}, {0x3f000000, 0x3fd3094c},
		{0x41200000, 0x46ac14ee}, {0xc1200000, 0x383e6bce}, {0x42a9b31c, 0x7caa5b70}, {0xc2b1c033, 0x001b78f7},
		{0x3f9c7c14, 0x405954a2}, {0x3fa79ee2, 0x406d15cc}, {0xc2ac0052, 0x01736c63}, {0xc236e4b4, 0x1e832866},
		{0x43480000, 0x7f800000}, {0x43480001, 0x7f800000}, {0xc3480000, 0x00000000}, {0xc3480001, 0x00000000},
		{0x42b17217, 0x7f7fff84}, {0x42b17218, 0x7f800000}, {0xc2cff0a4, 0x00000001}, {0xc2cff5c3, 0x00000000},
		{0xc2af0000, 0x006cb2bc},
	})
}

func TestLogNumber(t *testing.T) {
	checkBits(t, "LogNumber", impl.LogNumber, []bitsPair{
		{0x00000000, 0xff800000}, {0x80000000, 0xff800000}, {0x80000001, 0x7fc00000}, {0xbf800000, 0x7fc00000},
		{0xff7fffff, 0x7fc00000}, {0xff800000, 0x7fc00000}, {0x7f800000, 0x7f800000}, {0x7f7fffff, 0x42b17218},
		{0x00000001, 0xc2ce8ed0}, {0x00800000, 0xc2aeac50}, {0x007fffff, 0xc2aeac50}, {0x000116c2, 0xc2b834f2},
		{0x3f800000, 0x00000000}, {0x40000000, 0x3f317218}, {0x3f000000, 0xbf317218}, {0x41200000, 0x40135d8e},
		{0x3f80023c, 0x388efec0}, {0x3f80005f, 0x373dffb9}, {0x41178feb, 0x400fe5e7}, {0x3f7e36c7, 0xbbe5699b},
		{0x3f7fffff, 0xb3800000}, {0x3f800001, 0x33ffffff}, {0x3f400000, 0xbe934b11}, {0x3f3fffff, 0xbe934b13},
		{0x3fc00000, 0x3ecf991f}, {0x3fbfffff, 0x3ecf991d}, {0x40400000, 0x3f8c9f54}, {0x447a0000, 0x40dd0c55},
		{0x3ebf0802, 0xbf7c631e}, {0x3ebd3fa5, 0xbf7ec98f}, {0x3f3f5ec0, 0xbe94f9c5},
	})
}

func TestRootNumber(t *testing.T) {
	checkBits(t, "RootNumber", impl.RootNumber, []bitsPair{
		{0x00000000, 0x00000000}, {0x80000000, 0x80000000}, {0x80000001, 0x7fc00000}, {0xbf800000, 0x7fc00000},
		{0xff7fffff, 0x7fc00000}, {0xff800000, 0x7fc00000}, {0x7f800000, 0x7f800000}, {0x7f7fffff, 0x5f7fffff},
		{0x00000001, 0x1a3504f3}, {0x00800000, 0x20000000}, {0x007fffff, 0x1fffffff}, {0x000116c2, 0x1e3ce4e7},
		{0x3f800000, 0x3f800000}, {0x40000000, 0x3fb504f3}, {0x3f000000, 0x3f3504f3}, {0x41200000, 0x404a62c2},
		{0x41100000, 0x40400000}, {0x40400000, 0x3fddb3d7}, {0x3dcccccd, 0x3ea1e89b}, {0x4b7fffff, 0x457fffff},
	})
}

func TestTanhNumber(t *testing.T) {
	checkBits(t, "TanhNumber", impl.TanhNumber, []bitsPair{
		{0x00000000, 0x00000000}, {0x80000000, 0x00000000}, {0x00000001, 0x00000000}, {0x80000001, 0x00000000},
		{0x7f7fffff, 0x3f800000}, {0xff7fffff, 0xbf800000}, {0x7f800000, 0x3f800000}, {0xff800000, 0xbf800000},
		{0x3f800000, 0x3f42f7d6}, {0xbf800000, 0xbf42f7d6}, {0x40000000, 0x3f76ca83}, {0x3f000000, 0x3eec9a9f},
		{0x41200000, 0x3f800000}, {0xc1200000, 0xbf800000}, {0x41a00000, 0x3f800000}, {0x41a00001, 0x3f800000},
		{0xc1a00000, 0xbf800000}, {0xc1a00001, 0xbf800000}, {0x41100000, 0x3f7fffff}, {0x41080000, 0x3f7fffff},
		{0x34617c5d, 0x34617c5e}, {0xb4617c5d, 0xb4617c5d}, {0x3d3a30ad, 0x3d3a0fdf}, {0x3bec4106, 0x3bec3ffa},
		{0x3aeafd76, 0x3aeafd65}, {0xbe800000, 0xbe7acbf5}, {0x2b8cbccc, 0x2b8c0000}, {0x24e69595, 0x00000000},
		{0xc1000000, 0xbf7ffffc}, {0xc1080000, 0xbf7fffff}, {0xc1100000, 0xbf7fffff}, {0xc1180000, 0xbf800000},
	})
}

// The functions are close to those of package math, in all of their range.
func TestFunctionsAreClose(t *testing.T) {
	close := func(name string, x, got float32, want float64) {
		t.Helper()
		if gap := math.Abs(float64(got) - want); !(gap <= math.Abs(want)*1e-6+1e-30) {
			t.Errorf("%s(%g): got %g, want about %g", name, x, got, want)
		}
	}
	c := chance(7)
	for range 20000 {
		x := c.small() * 10
		close("ExpNumber", x, impl.ExpNumber(x), math.Exp(float64(x)))
		close("TanhNumber", x, impl.TanhNumber(x), math.Tanh(float64(x)))
		y := of(c.next()%0x7f7fffff + 1)
		close("LogNumber", y, impl.LogNumber(y), math.Log(float64(y)))
		wantNumber(t, "RootNumber", impl.RootNumber(y), float32(math.Sqrt(float64(y))))
	}
}
