package tests

import (
	"fmt"
	"math"
	"math/big"
	"testing"

	"loop.example/g01157/impl"
)

// sizeOfWord is the size of a positive number as if the finite ones went on
// behind the greatest one.
func sizeOfWord(word uint32) float64 {
	if word == 0x7f800000 {
		return math.Ldexp(1, 128)
	}
	return float64(of(word))
}

// bfloatByDistance finds the nearest bfloat by the distances to both.
func bfloatByDistance(x float32) float32 {
	word := math.Float32bits(x)
	sign, size := word&0x80000000, word&0x7fffffff
	if size >= 0x7f800000 {
		return x
	}
	low := size / 65536 * 65536
	down, up := sizeOfWord(size)-sizeOfWord(low), sizeOfWord(low+65536)-sizeOfWord(size)
	if down > up || down == up && low/65536%2 == 1 {
		low += 65536
	}
	return of(sign | low)
}

func TestBfloatOfAtEdges(t *testing.T) {
	cases := []struct{ x, want float32 }{
		{0, 0}, {minusZero, minusZero}, {1, 1}, {1.00390625, 1}, {-1.00390625, -1}, {1.01171875, 1.015625},
		{of(0x3f808001), 1.0078125}, {of(0x3f807fff), 1}, {of(0x3f818000), of(0x3f820000)}, {of(0x3f817fff), of(0x3f810000)},
		{least, 0}, {-least, minusZero}, {of(0x00008000), 0}, {of(0x00008001), of(0x00010000)}, {of(0x80018000), of(0x80020000)},
		{of(0x7f7f0000), of(0x7f7f0000)}, {of(0x7f7f7fff), of(0x7f7f0000)}, {of(0x7f7f8000), infinity}, {of(0xff7f7fff), of(0xff7f0000)},
		{greatest, infinity}, {-greatest, -infinity}, {infinity, infinity}, {-infinity, -infinity},
		{nan, nan}, {of(0x7f800001), nan}, {of(0xff800001), nan}, {of(0x7fffffff), nan}, {of(0xffffffff), nan},
	}
	for _, c := range cases {
		wantNumber(t, fmt.Sprintf("BfloatOf(%08x)", math.Float32bits(c.x)), impl.BfloatOf(c.x), c.want)
	}
}

func TestBfloatOfIsTheNearest(t *testing.T) {
	c := chance(5)
	for i := range 40000 {
		x := c.number()
		if i%4 == 0 { // a tie
			x = of(c.next()&0xffff0000 | 0x8000)
		}
		got := impl.BfloatOf(x)
		wantNumber(t, fmt.Sprintf("BfloatOf(%08x)", math.Float32bits(x)), got, bfloatByDistance(x))
		wantValue(t, "the last 16 bits", impl.BitsOf(got)%65536, 0)
	}
}

func TestBfloatByAtEdges(t *testing.T) {
	cases := []struct {
		x      float32
		chance int64
		want   float32
	}{
		{1.00390625, 32768, 1.0078125}, {1.00390625, 32767, 1}, {1.00390625, 0, 1}, {1.00390625, 65535, 1.0078125},
		{-1.00390625, 32768, -1.0078125}, {-1.00390625, 32767, -1}, {1, 0, 1}, {1, 65535, 1}, {-1, 65535, -1},
		{0, 65535, 0}, {minusZero, 65535, minusZero}, {least, 65534, 0}, {least, 65535, of(0x00010000)}, {-least, 65535, of(0x80010000)},
		{greatest, 0, of(0x7f7f0000)}, {greatest, 1, infinity}, {-greatest, 1, -infinity}, {of(0x7f7f0000), 65535, of(0x7f7f0000)},
		{infinity, 65535, infinity}, {-infinity, 1, -infinity}, {nan, 65535, nan}, {of(0x7f800001), 0, nan}, {of(0xffffffff), 65535, nan},
	}
	for _, c := range cases {
		got, ok := impl.BfloatBy(c.x, c.chance)
		wantNumberOk(t, fmt.Sprintf("BfloatBy(%08x, %d)", math.Float32bits(c.x), c.chance), got, ok, c.want)
	}
	for _, x := range edges() {
		for _, chance := range []int64{-1, 65536, math.MinInt64, math.MaxInt64} {
			got, ok := impl.BfloatBy(x, chance)
			wantFailure(t, fmt.Sprintf("BfloatBy(%g, %d)", x, chance), got, ok)
		}
	}
}

// Of all chances, as many go away from zero as the last 16 bits tell.
func TestBfloatByOfAllChances(t *testing.T) {
	for _, x := range []float32{1, 1.5, 0.1, -0.1, of(0x3f80ffff), of(0xbf800001), of(0x00000001), of(0x7f7f1234), greatest} {
		down := of(math.Float32bits(x) &^ 0xffff)
		up := of(math.Float32bits(x)&^0xffff + 0x10000)
		var ups uint32
		for chance := range int64(65536) {
			got, ok := impl.BfloatBy(x, chance)
			if !ok || !same(got, down) && !same(got, up) {
				t.Fatalf("BfloatBy(%g, %d): got %g, %v, want %g or %g", x, chance, got, ok, down, up)
			}
			if same(got, up) {
				ups++
			}
		}
		wantValue(t, fmt.Sprintf("chances of %g away from zero", x), ups, math.Float32bits(x)&0xffff)
	}
}

// eightByRule returns the value of a code as the document's text has it.
func eightByRule(kind, code int64) float32 {
	parts, bias := int64(4), int64(15)
	if kind == impl.EightFine {
		parts, bias = 8, 7
	}
	sign, rest := float32(1), code
	if code >= 128 {
		sign, rest = -1, code-128
	}
	if kind == impl.EightWide && rest == 124 {
		return sign * infinity
	}
	if rest > 124 && kind == impl.EightWide || rest == 127 {
		return nan
	}
	e, f := rest/parts, rest%parts
	value := float64(f) / float64(parts) * math.Pow(2, float64(1-bias))
	if e > 0 {
		value = (1 + float64(f)/float64(parts)) * math.Pow(2, float64(e-bias))
	}
	return sign * float32(value)
}

func TestEightValueOfAllCodes(t *testing.T) {
	for _, kind := range []int64{impl.EightWide, impl.EightFine} {
		for code := range int64(256) {
			got, ok := impl.EightValue(kind, code)
			wantNumberOk(t, fmt.Sprintf("EightValue(%d, %d)", kind, code), got, ok, eightByRule(kind, code))
		}
	}
}

func TestEightValueAtEdges(t *testing.T) {
	cases := []struct {
		kind, code int64
		want       float32
	}{
		{0, 0, 0}, {0, 128, minusZero}, {0, 1, 0x1p-16}, {0, 3, 0x3p-16}, {0, 4, 0x1p-14}, {0, 60, 1}, {0, 62, 1.5}, {0, 188, -1},
		{0, 123, 57344}, {0, 251, -57344}, {0, 124, infinity}, {0, 252, -infinity}, {0, 125, nan}, {0, 126, nan}, {0, 127, nan}, {0, 253, nan}, {0, 255, nan},
		{1, 0, 0}, {1, 128, minusZero}, {1, 1, 0x1p-9}, {1, 7, 0x7p-9}, {1, 8, 0x1p-6}, {1, 56, 1}, {1, 60, 1.5}, {1, 184, -1},
		{1, 120, 256}, {1, 124, 384}, {1, 126, 448}, {1, 254, -448}, {1, 127, nan}, {1, 255, nan},
	}
	for _, c := range cases {
		got, ok := impl.EightValue(c.kind, c.code)
		wantNumberOk(t, fmt.Sprintf("EightValue(%d, %d)", c.kind, c.code), got, ok, c.want)
	}
	for _, pair := range [][2]int64{{-1, 0}, {2, 0}, {0, -1}, {0, 256}, {1, -1}, {1, 256}, {math.MinInt64, 0}, {0, math.MinInt64}, {1, math.MaxInt64}, {256, 1}} {
		got, ok := impl.EightValue(pair[0], pair[1])
		wantFailure(t, fmt.Sprintf("EightValue(%d, %d)", pair[0], pair[1]), got, ok)
	}
}

func TestEightOfGoesBack(t *testing.T) {
	for _, kind := range []int64{impl.EightWide, impl.EightFine} {
		for code := range int64(256) {
			x := eightByRule(kind, code)
			want := code
			if isNan(x) {
				want = 127
			} else if x > greatest || x < -greatest {
				want = code - 1 // the greatest finite value
			}
			got, ok := impl.EightOf(kind, x)
			wantOk(t, fmt.Sprintf("EightOf(%d, %g)", kind, x), got, ok, want)
		}
	}
}

func TestEightOfAtEdges(t *testing.T) {
	cases := []struct {
		kind int64
		x    float32
		want int64
	}{
		{0, 0, 0}, {0, minusZero, 128}, {0, least, 0}, {0, -least, 128}, {0, 0x1p-17, 0}, {0, -0x1p-17, 128}, {0, impl.NextUp(0x1p-17), 1},
		{0, 0x3p-17, 2}, {0, 0x7p-17, 4}, {0, 1.125, 60}, {0, 1.375, 62}, {0, 1.875, 64}, {0, impl.NextDown(1.875), 63}, {0, impl.NextUp(1.125), 61},
		{0, 57344, 123}, {0, 57345, 123}, {0, 61440, 123}, {0, 65536, 123}, {0, greatest, 123}, {0, -greatest, 251}, {0, infinity, 123}, {0, -infinity, 251},
		{0, -100000, 251}, {0, 53248, 122}, {0, impl.NextUp(53248), 123}, {0, nan, 127}, {0, of(0xffffffff), 127}, {0, of(0xff800001), 127},
		{1, 0, 0}, {1, minusZero, 128}, {1, least, 0}, {1, -least, 128}, {1, 0x1p-10, 0}, {1, -0x1p-10, 128}, {1, impl.NextUp(0x1p-10), 1},
		{1, 0x3p-10, 2}, {1, 0xfp-10, 8}, {1, 1.0625, 56}, {1, 1.1875, 58}, {1, 1.9375, 64}, {1, 448, 126}, {1, 449, 126}, {1, 464, 126}, {1, 480, 126}, {1, 1000, 126},
		{1, 432, 126}, {1, impl.NextDown(432), 125}, {1, greatest, 126}, {1, infinity, 126}, {1, -infinity, 254}, {1, nan, 127}, {1, of(0x7f800001), 127}, {1, of(0xffc00000), 127},
	}
	for _, c := range cases {
		got, ok := impl.EightOf(c.kind, c.x)
		wantOk(t, fmt.Sprintf("EightOf(%d, %g)", c.kind, c.x), got, ok, c.want)
	}
	for _, kind := range []int64{-1, 2, 256, math.MinInt64, math.MaxInt64} {
		for _, x := range edges() {
			got, ok := impl.EightOf(kind, x)
			wantFailure(t, fmt.Sprintf("EightOf(%d, %g)", kind, x), got, ok)
		}
	}
}

// restByDistance finds the nearest finite rest by exact distances.
func restByDistance(kind int64, size float32) int64 {
	x := new(big.Rat).SetFloat64(float64(size))
	best, bestGap := int64(0), x
	for rest := int64(1); rest < 127; rest++ {
		value := eightByRule(kind, rest)
		if isNan(value) || value > greatest {
			break
		}
		gap := new(big.Rat).SetFloat64(float64(value))
		gap.Abs(gap.Sub(gap, x))
		if order := gap.Cmp(bestGap); order < 0 || order == 0 && rest%2 == 0 {
			best, bestGap = rest, gap
		}
	}
	return best
}

func TestEightOfIsTheNearest(t *testing.T) {
	c := chance(6)
	for _, kind := range []int64{impl.EightWide, impl.EightFine} {
		var list []float32
		for rest := range int64(122) {
			middle := (eightByRule(kind, rest) + eightByRule(kind, rest+1)) / 2
			list = append(list, middle, impl.NextUp(middle), impl.NextDown(middle))
		}
		for range 600 {
			list = append(list, c.small(), c.small()/4096, c.small()*60, of(c.next()%0x7f800000))
		}
		for _, x := range list {
			want := restByDistance(kind, float32(math.Abs(float64(x))))
			if math.Signbit(float64(x)) {
				want += 128
			}
			got, ok := impl.EightOf(kind, x)
			wantOk(t, fmt.Sprintf("EightOf(%d, %g)", kind, x), got, ok, want)
		}
	}
}
