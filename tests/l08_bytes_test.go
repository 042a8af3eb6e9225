package tests

import (
	"hash/crc32"
	"math"
	"strings"
	"testing"

	"loop.example/g01157/impl"
)

// mostListed is how many numbers a list has at most as bytes.
const mostListed = 4096

// anyText has any bytes.
func (c *chance) anyText(length int) string {
	text := make([]byte, length)
	for i := range text {
		text[i] = byte(c.next() >> 8)
	}
	return string(text)
}

// longTexts has texts of the most bytes for which there is a check.
func longTexts() (zeros, squares string) {
	text := make([]byte, impl.MaxStored)
	for i := range text {
		text[i] = byte(7 * i * i)
	}
	return string(make([]byte, impl.MaxStored)), string(text)
}

// Checks that are told have been computed apart from this program, in another
// language.
func TestChecksThatAreTold(t *testing.T) {
	all := make([]byte, 256)
	for i := range all {
		all[i] = byte(i)
	}
	zeros, squares := longTexts()
	for text, want := range map[string]int64{
		"": 0, "\x00": 3523407757, "a": 3904355907, "abc": 891568578, "123456789": 3421780262,
		"\xff\xff\xff\xff": 4294967295, zeros: 2536461058, string(all): 688229491, squares: 1152779539,
	} {
		got, ok := impl.CheckWord(text)
		wantOk(t, "CheckWord of "+text[:min(len(text), 9)], got, ok, want)
	}
}

func TestCheckWord(t *testing.T) {
	c := chance(500)
	for length := range 70 {
		for range 20 {
			text := c.anyText(length)
			got, ok := impl.CheckWord(text)
			wantOk(t, "CheckWord", got, ok, checkByRule(text))
			wantValue(t, "CheckWord of bytes that a table makes", got, int64(crc32.ChecksumIEEE([]byte(text))))
		}
	}
	for part := range 256 {
		for _, text := range []string{string([]byte{byte(part)}), string([]byte{0, byte(part)}), string([]byte{byte(part), 255})} {
			got, ok := impl.CheckWord(text)
			wantOk(t, "CheckWord of each byte", got, ok, checkByRule(text))
		}
	}
	for _, length := range []int{1000, 8688, impl.MaxStored - 1, impl.MaxStored} {
		text := c.anyText(length)
		got, ok := impl.CheckWord(text)
		wantOk(t, "CheckWord of a long text", got, ok, checkByRule(text))
	}
	for _, length := range []int{impl.MaxStored + 1, impl.MaxStored + 2, 2 * impl.MaxStored, 1 << 16, 1 << 20} {
		got, ok := impl.CheckWord(c.anyText(length))
		wantFailure(t, "CheckWord of too long a text", got, ok)
		got, ok = impl.CheckWord(string(make([]byte, length)))
		wantFailure(t, "CheckWord of too many zeros", got, ok)
	}
}

func TestNumbersBytes(t *testing.T) {
	c := chance(501)
	for _, list := range [][]float32{nil, {}} {
		got, ok := impl.NumbersBytes(list)
		wantOk(t, "NumbersBytes of none", got, ok, "")
	}
	got, ok := impl.NumbersBytes([]float32{1, -2, of(0x01020304), of(0xfedcba98)})
	wantOk(t, "NumbersBytes", got, ok, "\x00\x00\x80\x3f\x00\x00\x00\xc0\x04\x03\x02\x01\x98\xba\xdc\xfe")
	got, ok = impl.NumbersBytes([]float32{nan, of(0xffc00000), of(0x7f800001), of(0xffffffff), of(0x7fbfffff), infinity, -infinity, 0, minusZero})
	want := strings.Repeat("\x00\x00\xc0\x7f", 5) + "\x00\x00\x80\x7f\x00\x00\x80\xff\x00\x00\x00\x00\x00\x00\x00\x80"
	wantOk(t, "NumbersBytes of not-a-numbers, infinities and zeros", got, ok, want)
	for _, count := range []int{1, 2, 3, 255, 256, 257, 1000, mostListed - 1, mostListed} {
		for _, list := range c.lists(count) {
			got, ok := impl.NumbersBytes(list)
			wantOk(t, "NumbersBytes", got, ok, bytesByRule(list...))
		}
	}
	long := filled(5000, 1)
	for _, count := range []int{0, 1, mostListed} {
		got, ok = impl.NumbersBytes(long[:count])
		wantOk(t, "NumbersBytes of the beginning of many numbers", got, ok, bytesByRule(long[:count]...))
	}
	for _, count := range []int{mostListed + 1, mostListed + 2, 5000, 1 << 16} {
		got, ok := impl.NumbersBytes(make([]float32, count))
		wantFailure(t, "NumbersBytes of too many numbers", got, ok)
	}
}

func TestBytesNumbers(t *testing.T) {
	c := chance(502)
	list, ok := impl.BytesNumbers("")
	wantNumbersOk(t, "BytesNumbers of no bytes", list, ok, nil)
	list, ok = impl.BytesNumbers("\x00\x00\x80\x3f\x00\x00\x00\xc0\x04\x03\x02\x01\x98\xba\xdc\xfe")
	wantNumbersOk(t, "BytesNumbers", list, ok, []float32{1, -2, of(0x01020304), of(0xfedcba98)})
	for _, count := range []int{1, 2, 3, 255, 256, 257, 1000, mostListed - 1, mostListed} {
		for _, numbers := range c.lists(count) {
			text := bytesByRule(numbers...)
			list, ok = impl.BytesNumbers(text)
			wantNumbersOk(t, "BytesNumbers", list, ok, numbers)
			for _, end := range []string{"\x00", "\x00\x00", "abc"} {
				list, ok = impl.BytesNumbers(text + end)
				wantListFailure(t, "BytesNumbers of bytes behind the last number", list, ok)
				list, ok = impl.BytesNumbers(text[:len(text)-len(end)])
				wantListFailure(t, "BytesNumbers of bytes that are cut", list, ok)
			}
		}
	}
	for _, text := range []string{"\x00", "12", "123", "12345", "123456", "1234567"} {
		list, ok = impl.BytesNumbers(text)
		wantListFailure(t, "BytesNumbers of no multiple of 4", list, ok)
	}
	for _, length := range []int{4*mostListed + 1, 4*mostListed + 3, 4*mostListed + 4, 4*mostListed + 8, 20000, 1 << 17, 1 << 20} {
		list, ok = impl.BytesNumbers(string(make([]byte, length)))
		wantListFailure(t, "BytesNumbers of too many bytes", list, ok)
	}
}

// Only the bits of a not-a-number that BitsOf returns are the bytes of one.
func TestBytesOfOtherNotANumbers(t *testing.T) {
	c := chance(503)
	list, ok := impl.BytesNumbers("\x00\x00\xc0\x7f")
	wantNumbersOk(t, "BytesNumbers of a not-a-number", list, ok, []float32{nan})
	others := []uint32{0x7fc00001, 0xffc00000, 0x7f800001, 0xff800001, 0x7fbfffff, 0x7fe00000, 0x7fffffff, 0xffffffff, 0x7f810000, 0x7fbf0000, 0x7fa00000, 0xff810000}
	for range 500 {
		bits := c.next() | 0x7f800000
		if isNan(of(bits)) && bits != 0x7fc00000 {
			others = append(others, bits)
		}
	}
	for _, bits := range others {
		for place := range 3 {
			numbers := c.smallList(3)
			numbers[place] = of(bits)
			list, ok = impl.BytesNumbers(rawBytes(numbers...))
			wantListFailure(t, "BytesNumbers of another not-a-number", list, ok)
			list, ok = impl.BytesNumbers(bytesByRule(numbers...))
			wantNumbersOk(t, "BytesNumbers of the bits of a not-a-number", list, ok, numbers)
		}
	}
}

// Bytes of any bits are those of numbers just if going back to the bytes does
// not change them.
func TestBytesOfAnyBits(t *testing.T) {
	c := chance(504)
	for range 20000 {
		bits := c.next()
		if c.below(2) == 0 {
			bits |= 0x7f000000
		}
		x := of(bits)
		list, ok := impl.BytesNumbers(wordBytes(int64(bits)))
		if isNan(x) && bits != 0x7fc00000 {
			wantListFailure(t, "BytesNumbers of another not-a-number", list, ok)
			continue
		}
		wantNumbersOk(t, "BytesNumbers of any bits", list, ok, []float32{x})
		wantValue(t, "the bits of what BytesNumbers returns", math.Float32bits(list[0]), bits)
		text, ok := impl.NumbersBytes(list)
		wantOk(t, "NumbersBytes of any bits", text, ok, wordBytes(int64(bits)))
	}
}
