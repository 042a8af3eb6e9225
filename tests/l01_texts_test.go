package tests

import (
	"math"
	"strings"
	"testing"

	"loop.example/g01157/impl"
)

func TestNumbersTextGoesBothWays(t *testing.T) {
	cases := []struct {
		list []float32
		text string
	}{
		{nil, "none"}, {[]float32{1}, "3f800000"}, {[]float32{1, -2}, "3f800000,c0000000"}, {[]float32{0, minusZero, least, -least}, "00000000,80000000,00000001,80000001"},
		{[]float32{greatest, -greatest, infinity, -infinity, nan}, "7f7fffff,ff7fffff,7f800000,ff800000,7fc00000"},
	}
	for _, c := range cases {
		text, ok := impl.NumbersText(c.list)
		wantOk(t, "NumbersText", text, ok, c.text)
		list, ok := impl.ReadNumbers(c.text)
		wantListOk(t, "ReadNumbers of "+c.text, bitsOfList(list), ok, bitsOfList(c.list))
	}
	text, ok := impl.NumbersText([]float32{})
	wantOk(t, "NumbersText of an empty list", text, ok, "none")
	text, ok = impl.NumbersText([]float32{of(0x7f800001), of(0xffc00000), of(0xffffffff)})
	wantOk(t, "NumbersText of not-a-numbers", text, ok, "7fc00000,7fc00000,7fc00000")
	c := chance(8)
	for count := range impl.MaxNumbers + 1 {
		list := make([]float32, count)
		for i := range list {
			list[i] = c.number()
		}
		text, ok := impl.NumbersText(list)
		wantValue(t, "NumbersText: success", ok, true)
		back, ok := impl.ReadNumbers(text)
		wantListOk(t, "ReadNumbers of NumbersText", bitsOfList(back), ok, bitsOfList(list))
	}
}

func TestNumbersTextOfTooManyNumbers(t *testing.T) {
	full := strings.Repeat("3f800000,", impl.MaxNumbers-1) + "3f800000"
	text, ok := impl.NumbersText(filled(impl.MaxNumbers, 1))
	wantOk(t, "NumbersText of MaxNumbers", text, ok, full)
	text, ok = impl.NumbersText(filled(impl.MaxNumbers+1, 1))
	wantFailure(t, "NumbersText of one more", text, ok)
	list, ok := impl.ReadNumbers(full)
	wantListOk(t, "ReadNumbers of MaxNumbers", list, ok, filled(impl.MaxNumbers, 1))
	list, ok = impl.ReadNumbers(full + ",3f800000")
	wantListFailure(t, "ReadNumbers of one more", list, ok)
}

func TestReadNumbersOfNoText(t *testing.T) {
	bad := []string{
		"", " ", ",", "none,", "None", "nonenone", "none,3f800000", "3f800000,", ",3f800000", "3f800000,,3f800000", "3f800000, 3f800000", " 3f800000", "3f800000\n",
		"3F800000", "3f80000", "03f800000", "3f8000000", "+f800000", "+3f800000", "-3f80000", "0x3f8000", "3f_80000", "3g800000", "3f80000\x00", "３f80000", "\xff\xff\xff\xff\xff\xff\xff\xff",
		"7fc00001", "ffc00000", "7f800001", "ff800001", "7fffffff", "ffffffff", "7FC00000", "3f800000;3f800000", "1,3f800000", "1",
	}
	for _, s := range bad {
		list, ok := impl.ReadNumbers(s)
		wantListFailure(t, "ReadNumbers of "+s, list, ok)
	}
}

func TestIsName(t *testing.T) {
	for _, s := range []string{"a", "z", "net", "abcdefgh", "zzzzzzzz"} {
		wantValue(t, "IsName of "+s, impl.IsName(s), true)
	}
	for _, s := range []string{"", "abcdefghi", "A", "Net", "nEt", "net1", "a b", " a", "a ", "a\n", "a-b", "`", "{", "é", "ａ", "\x61\xff", "\xe1", "ab\x00", "日本"} {
		wantValue(t, "IsName of "+s, impl.IsName(s), false)
	}
	for value := range 256 {
		wantValue(t, "IsName of one byte", impl.IsName(string([]byte{byte(value)})), value >= 'a' && value <= 'z')
	}
}

func TestDecimal(t *testing.T) {
	cases := []struct {
		n    int64
		text string
	}{
		{0, "0"}, {7, "7"}, {-7, "-7"}, {10, "10"}, {1200, "1200"}, {-1000, "-1000"}, {impl.MaxValue, "1000000000000000"}, {-impl.MaxValue, "-1000000000000000"},
		{math.MaxInt64, "9223372036854775807"}, {math.MinInt64, "-9223372036854775808"},
	}
	for _, c := range cases {
		wantValue(t, "Decimal", impl.Decimal(c.n), c.text)
		got, ok := impl.ReadDecimal(c.text)
		if c.n >= -impl.MaxValue && c.n <= impl.MaxValue {
			wantOk(t, "ReadDecimal of "+c.text, got, ok, c.n)
		} else {
			wantFailure(t, "ReadDecimal of "+c.text, got, ok)
		}
	}
}

// notDecimals has texts that are the Decimal of no number that is allowed.
func notDecimals() []string {
	return []string{
		"", "-", "+", "+1", "-0", "00", "01", "-01", " 1", "1 ", "1\n", "1_0", "0x1", "1.0", "1e3", "--1", "a", "１", "1\x00", "\xff",
		"1000000000000001", "-1000000000000001", "9223372036854775808", "-9223372036854775809", "18446744073709551617", "99999999999999999999999999",
	}
}

func TestReadDecimalOfNoText(t *testing.T) {
	for _, s := range notDecimals() {
		got, ok := impl.ReadDecimal(s)
		wantFailure(t, "ReadDecimal of "+s, got, ok)
	}
	got, ok := impl.ReadDecimal("none")
	wantFailure(t, "ReadDecimal of none", got, ok)
	got, ok = impl.ReadDecimal("999999999999999")
	wantOk(t, "ReadDecimal below MaxValue", got, ok, 999999999999999)
}

func TestListTextGoesBothWays(t *testing.T) {
	cases := []struct {
		list []int64
		text string
	}{
		{nil, "none"}, {[]int64{0}, "0"}, {[]int64{5, -3, 5}, "5,-3,5"}, {[]int64{impl.MaxValue, -impl.MaxValue}, "1000000000000000,-1000000000000000"},
	}
	for _, c := range cases {
		text, ok := impl.ListText(c.list)
		wantOk(t, "ListText", text, ok, c.text)
		list, ok := impl.ReadList(c.text)
		wantListOk(t, "ReadList of "+c.text, list, ok, c.list)
	}
	text, ok := impl.ListText([]int64{})
	wantOk(t, "ListText of an empty list", text, ok, "none")
}

func TestListsAtTheirLimits(t *testing.T) {
	full := strings.Repeat("1,", impl.MaxItems-1) + "1"
	ones := make([]int64, impl.MaxItems+1)
	for i := range ones {
		ones[i] = 1
	}
	text, ok := impl.ListText(ones[:impl.MaxItems])
	wantOk(t, "ListText of MaxItems", text, ok, full)
	text, ok = impl.ListText(ones)
	wantFailure(t, "ListText of one more", text, ok)
	list, ok := impl.ReadList(full)
	wantListOk(t, "ReadList of MaxItems", list, ok, ones[:impl.MaxItems])
	list, ok = impl.ReadList(full + ",1")
	wantListFailure(t, "ReadList of one more", list, ok)
	for _, n := range []int64{impl.MaxValue + 1, -impl.MaxValue - 1, math.MaxInt64, math.MinInt64} {
		text, ok = impl.ListText([]int64{1, n})
		wantFailure(t, "ListText of a number over MaxValue", text, ok)
	}
}

func TestReadListOfNoText(t *testing.T) {
	bad := append(notDecimals(), ",", "1,", ",1", "1,,2", "1, 2", "None", "none,", "none,1", "1,none", "1;2")
	for _, s := range bad {
		list, ok := impl.ReadList(s)
		wantListFailure(t, "ReadList of "+s, list, ok)
		list, ok = impl.ReadList("3," + s)
		wantListFailure(t, "ReadList of 3,"+s, list, ok)
	}
}

func TestCheckOf(t *testing.T) {
	cases := []struct {
		start int64
		s     string
		check int64
	}{
		{0, "", 0}, {65002, "", 65002}, {0, "a", 114}, {0, "\x00", 17}, {0, "\xff", 272}, {1, "\x00", 540},
		{114, "b", 59737}, {0, "ab", 59737}, {65002, "\xff", 64752}, {0, "\xff\x00", 12267},
	}
	for _, c := range cases {
		check, ok := impl.CheckOf(c.start, c.s)
		wantOk(t, "CheckOf "+c.s, check, ok, c.check)
	}
	for _, start := range []int64{-1, impl.CheckSize, impl.CheckSize + 1, math.MinInt64, math.MaxInt64} {
		for _, s := range []string{"", "a"} {
			check, ok := impl.CheckOf(start, s)
			wantFailure(t, "CheckOf with a start that is none", check, ok)
		}
	}
}

func TestCheckOfGoesOn(t *testing.T) {
	text := strings.Repeat("\x00\xff rows é \n", 500)
	whole, ok := impl.CheckOf(7, text)
	wantValue(t, "CheckOf: success", ok, true)
	for _, cut := range []int{0, 1, 12, 999, len(text)} {
		first, _ := impl.CheckOf(7, text[:cut])
		second, ok := impl.CheckOf(first, text[cut:])
		wantOk(t, "CheckOf in two parts", second, ok, whole)
	}
}
