package impl

import (
	"math"
	"strconv"
	"strings"
)

// Limits of chapter 1, and formats of eight bits.
const (
	MaxNumbers = 256
	MaxValue   = 1000000000000000
	MaxItems   = 64
	CheckSize  = 65003

	EightWide = 0
	EightFine = 1
)

// word is the bits of a float32. Rounding to fewer bits and going to a
// neighbour are steps among these integers, where no float can round again.
type word uint32

const (
	signBit      word = 0x80000000
	infiniteWord word = 0x7f800000
	nanWord      word = 0x7fc00000
	bfloatMask   word = 0xffff0000
)

func wordOf(x float32) word { return word(math.Float32bits(x)) }

func (w word) number() float32 { return math.Float32frombits(uint32(w)) }

func (w word) withoutSign() word { return w &^ signBit }

func (w word) hasSign() bool { return w&signBit != 0 }

func (w word) isNan() bool { return w.withoutSign() > infiniteWord }

func (w word) isFinite() bool { return w.withoutSign() < infiniteWord }

// SameNumber reports whether two numbers are the same.
func SameNumber(a, b float32) bool { return BitsOf(a) == BitsOf(b) }

// IsFinite reports whether x is neither an infinity nor a not-a-number.
func IsFinite(x float32) bool { return wordOf(x).isFinite() }

// BitsOf returns the bits of a number, which are the same ones for each
// not-a-number.
func BitsOf(x float32) int64 {
	w := wordOf(x)
	if w.isNan() {
		return int64(nanWord)
	}
	return int64(w)
}

// FromBits returns the number with the given bits.
func FromBits(n int64) (float32, bool) {
	if n < 0 || n > math.MaxUint32 {
		return 0, false
	}
	return word(n).number(), true
}

// WideBitsOf returns the bits of a 64-bit number as a signed integer; they
// are the same ones for each not-a-number.
func WideBitsOf(x float64) int64 {
	const nanBits = 0x7ff8000000000000
	if math.IsNaN(x) {
		return nanBits
	}
	return int64(math.Float64bits(x))
}

// absolute returns x without its sign.
func absolute(x float32) float32 { return wordOf(x).withoutSign().number() }

// NarrowNumber returns the nearest 32-bit number, with ties to even.
func NarrowNumber(x float64) float32 { return float32(x) }

// NextUp returns the next greater number.
func NextUp(x float32) float32 {
	w := wordOf(x)
	switch {
	case w.isNan() || w == infiniteWord:
		return x
	case w.withoutSign() == 0:
		return math.SmallestNonzeroFloat32
	case w.hasSign():
		return (w - 1).number()
	}
	return (w + 1).number()
}

// NextDown returns the next lesser number.
func NextDown(x float32) float32 {
	opposite := NextUp((wordOf(x) ^ signBit).number())
	return (wordOf(opposite) ^ signBit).number()
}

// SumNumbers returns the sum from left to right.
func SumNumbers(list []float32) (float32, bool) {
	if len(list) > MaxNumbers {
		return 0, false
	}
	return sumInOrder(list), true
}

// sumInOrder begins with +0 and adds all numbers, from left to right.
func sumInOrder[T floating](list []T) T {
	var sum T
	for _, x := range list {
		sum += x
	}
	return sum
}

// SumPairs returns the sum of the sums of both halves.
func SumPairs(list []float32) (float32, bool) {
	if len(list) > MaxNumbers {
		return 0, false
	}
	return sumHalves(list), true
}

func sumHalves(list []float32) float32 {
	switch len(list) {
	case 0:
		return 0
	case 1:
		return list[0]
	}
	half := (len(list) + 1) / 2
	return sumHalves(list[:half]) + sumHalves(list[half:])
}

// SumCarried returns the sum with a carry of what each addition has lost.
func SumCarried(list []float32) (float32, bool) {
	if len(list) > MaxNumbers {
		return 0, false
	}
	var sum, carry float32
	for _, x := range list {
		y := x - carry
		t := sum + y
		carry = (t - sum) - y
		sum = t
	}
	return sum, true
}

// floating has the numbers of both sizes.
type floating interface{ float32 | float64 }

// dotIn adds the products of two lists of the same length, from left to
// right, in numbers of the type T. The conversion of each product has it
// rounded on its own: without it, a processor may fuse it with the addition.
func dotIn[T, S floating](a, b []S) T {
	var sum T
	for i, x := range a {
		sum += T(T(x) * T(b[i]))
	}
	return sum
}

func canDot(a, b []float32) bool {
	return len(a) == len(b) && len(a) <= MaxNumbers
}

// DotNumbers returns the sum of products.
func DotNumbers(a, b []float32) (float32, bool) {
	if !canDot(a, b) {
		return 0, false
	}
	return dotIn[float32](a, b), true
}

// DotWide returns the sum of products in 64 bits, narrowed at the end.
func DotWide(a, b []float32) (float32, bool) {
	if !canDot(a, b) {
		return 0, false
	}
	return NarrowNumber(dotIn[float64](a, b)), true
}

// BfloatOf returns the nearest bfloat, with ties to even.
func BfloatOf(x float32) float32 {
	w := wordOf(x)
	if w.isNan() {
		return nanWord.number()
	}
	// Just less than a half is added, and exactly a half if the bfloat below
	// is odd. From the greatest bfloat, the carry leads to the infinity.
	const lessThanHalf = 0x7fff
	return ((w + lessThanHalf + w>>16&1) & bfloatMask).number()
}

// BfloatBy returns the bfloat that given bits choose.
func BfloatBy(x float32, chance int64) (float32, bool) {
	const greatestChance = 65535
	if chance < 0 || chance > greatestChance {
		return 0, false
	}
	w := wordOf(x)
	if !w.isFinite() {
		return x, true
	}
	return ((w + word(chance)) & bfloatMask).number(), true
}

// Codes of eight bits have their sign in eightSign, and a rest below it.
const (
	eightSign = 128
	eightNan  = 127
)

// eightFormat tells what the rests of the codes of a kind mean.
type eightFormat struct {
	parts       int64 // how many rests have the same power of 2
	bias        int64
	greatest    int64 // the rest of the greatest finite value
	hasInfinity bool  // whether the rest behind greatest is an infinity
}

func eightFormatOf(kind int64) (eightFormat, bool) {
	switch kind {
	case EightWide:
		return eightFormat{parts: 4, bias: 15, greatest: 123, hasInfinity: true}, true
	case EightFine:
		return eightFormat{parts: 8, bias: 7, greatest: 126}, true
	}
	return eightFormat{}, false
}

// sizeOf returns the value of a rest, from 0 to 127.
func (f eightFormat) sizeOf(rest int64) float64 {
	if rest > f.greatest {
		if f.hasInfinity && rest == f.greatest+1 {
			return math.Inf(1)
		}
		return math.NaN()
	}
	e := rest / f.parts
	fraction := float64(rest%f.parts) / float64(f.parts)
	if e == 0 {
		return math.Ldexp(fraction, int(1-f.bias))
	}
	return math.Ldexp(1+fraction, int(e-f.bias))
}

// nearestRest returns the finite rest whose value is nearest to size, which
// is at least 0. The middle of two values is exact in 64 bits, where the
// distances from size would not always be.
func (f eightFormat) nearestRest(size float64) int64 {
	for rest := range f.greatest {
		middle := (f.sizeOf(rest) + f.sizeOf(rest+1)) / 2
		if size < middle || size == middle && rest%2 == 0 {
			return rest
		}
	}
	return f.greatest
}

// EightOf returns the nearest code of eight bits.
func EightOf(kind int64, x float32) (int64, bool) {
	format, ok := eightFormatOf(kind)
	if !ok {
		return 0, false
	}
	w := wordOf(x)
	if w.isNan() {
		return eightNan, true
	}
	rest := format.nearestRest(float64(absolute(x)))
	if w.hasSign() {
		return rest + eightSign, true
	}
	return rest, true
}

// EightValue returns the value of a code.
func EightValue(kind, code int64) (float32, bool) {
	format, ok := eightFormatOf(kind)
	if !ok || code < 0 || code >= 2*eightSign {
		return 0, false
	}
	value := format.sizeOf(code % eightSign)
	if code >= eightSign {
		value = math.Copysign(value, -1)
	}
	return NarrowNumber(value), true
}

// ExpNumber returns the exponential function.
func ExpNumber(x float32) float32 { return NarrowNumber(expWide(float64(x))) }

func expWide(x float64) float64 {
	if x > 200 {
		return math.Inf(1)
	}
	if x < -200 {
		return 0
	}
	t := x / 256
	p := 1.0
	for k := 12; k >= 1; k-- {
		p = 1 + float64(t*p)/float64(k)
	}
	for range 8 {
		p = float64(p * p)
	}
	return p
}

// LogNumber returns the logarithm.
func LogNumber(x float32) float32 { return NarrowNumber(logWide(float64(x))) }

func logWide(x float64) float64 {
	const logOfTwo = 0.6931471805599453
	switch {
	case x < 0:
		return math.NaN()
	case x == 0:
		return math.Inf(-1)
	case math.IsInf(x, 1):
		return x
	}
	e := 0
	for ; x >= 1.5; e++ {
		x /= 2
	}
	for ; x < 0.75; e-- {
		x *= 2
	}
	s := (x - 1) / (x + 1)
	u := float64(s * s)
	q := 0.0
	for k := 25; k >= 1; k -= 2 {
		q = 1/float64(k) + float64(u*q)
	}
	return float64(2*float64(s*q)) + float64(float64(e)*logOfTwo)
}

// RootNumber returns the square root.
func RootNumber(x float32) float32 { return NarrowNumber(math.Sqrt(float64(x))) }

// TanhNumber returns the hyperbolic tangent.
func TanhNumber(x float32) float32 {
	if x > 20 {
		return 1
	}
	if x < -20 {
		return -1
	}
	p := expWide(2 * float64(x))
	return NarrowNumber((p - 1) / (p + 1))
}

// emptyText is the text of a list without items.
const emptyText = "none"

// joinItems returns the text of a list: the texts of its items with a comma
// between two of them.
func joinItems[T any](items []T, textOf func(T) string) string {
	if len(items) == 0 {
		return emptyText
	}
	var text strings.Builder
	for i, item := range items {
		if i > 0 {
			text.WriteByte(',')
		}
		text.WriteString(textOf(item))
	}
	return text.String()
}

// splitItems returns the list of at most most items whose text is s.
func splitItems[T any](s string, most int, read func(string) (T, bool)) ([]T, bool) {
	if s == emptyText {
		return nil, true
	}
	parts := strings.SplitN(s, ",", most+1)
	if len(parts) > most {
		return nil, false
	}
	items := make([]T, len(parts))
	for i, part := range parts {
		item, ok := read(part)
		if !ok {
			return nil, false
		}
		items[i] = item
	}
	return items, true
}

func numberText(x float32) string {
	digits := strconv.FormatInt(BitsOf(x), 16)
	return "00000000"[len(digits):] + digits
}

// readNumber returns the number whose text is s. Going back to the text
// refuses what ParseUint takes besides: upper-case letters, other lengths and
// the bits of not-a-numbers that BitsOf does not return.
func readNumber(s string) (float32, bool) {
	bits, err := strconv.ParseUint(s, 16, 32)
	if err != nil {
		return 0, false
	}
	x := word(bits).number()
	if numberText(x) != s {
		return 0, false
	}
	return x, true
}

// NumbersText returns the text of numbers.
func NumbersText(list []float32) (string, bool) {
	if len(list) > MaxNumbers {
		return "", false
	}
	return joinItems(list, numberText), true
}

// ReadNumbers returns the numbers with the given text.
func ReadNumbers(s string) ([]float32, bool) {
	return splitItems(s, MaxNumbers, readNumber)
}

// IsName reports whether s is a name.
func IsName(s string) bool {
	const longestName = 8
	if len(s) < 1 || len(s) > longestName {
		return false
	}
	for _, letter := range s {
		if !isNameLetter(letter) {
			return false
		}
	}
	return true
}

func isNameLetter(letter rune) bool { return 'a' <= letter && letter <= 'z' }

// Decimal returns n in decimal.
func Decimal(n int64) string { return strconv.FormatInt(n, 10) }

func isListable(n int64) bool { return -MaxValue <= n && n <= MaxValue }

// ReadDecimal returns the number with the given decimal text.
func ReadDecimal(s string) (int64, bool) {
	n, err := strconv.ParseInt(s, 10, 64)
	// ParseInt takes other texts of n too, such as those with a plus.
	if err != nil || !isListable(n) || Decimal(n) != s {
		return 0, false
	}
	return n, true
}

// ListText returns the text of a list.
func ListText(list []int64) (string, bool) {
	if len(list) > MaxItems {
		return "", false
	}
	for _, n := range list {
		if !isListable(n) {
			return "", false
		}
	}
	return joinItems(list, Decimal), true
}

// ReadList returns the list with the given text.
func ReadList(s string) ([]int64, bool) {
	return splitItems(s, MaxItems, ReadDecimal)
}

// CheckOf returns the check number of a text that begins with start.
func CheckOf(start int64, s string) (int64, bool) {
	if start < 0 || start >= CheckSize {
		return 0, false
	}
	check := start
	for i := range len(s) {
		check = (523*check + int64(s[i]) + 17) % CheckSize
	}
	return check, true
}
