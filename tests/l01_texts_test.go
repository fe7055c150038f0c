package tests

import (
	"math"
	"slices"
	"strings"
	"testing"

	"loop.example/g01327/impl"
)

// wantText checks that a list has a text, and that the list is read back from it.
func wantText[T any](t *testing.T, list []T, want string, write func([]T) (string, bool), read func(string) ([]T, bool), same func(a, b T) bool) {
	t.Helper()
	text, ok := write(list)
	if text != want || !ok {
		t.Errorf("the text of %v: got %q %v, want %q", list, text, ok, want)
	}
	back, ok := read(want)
	if !ok || !slices.EqualFunc(back, list, same) {
		t.Errorf("the list of %q: got %v %v, want %v", want, back, ok, list)
	}
}

// wantNoText checks that a list, which is too long or has what no list has, has no text.
func wantNoText[T any](t *testing.T, list []T, write func([]T) (string, bool)) {
	t.Helper()
	if text, ok := write(list); text != "" || ok {
		t.Errorf("the text of %v: got %q %v, want it to fail", list, text, ok)
	}
}

// wantNoList checks that s is no text of a list.
func wantNoList[T any](t *testing.T, s string, read func(string) ([]T, bool)) {
	t.Helper()
	if list, ok := read(s); len(list) != 0 || ok {
		t.Errorf("the list of %q: got %v %v, want it to fail", s, list, ok)
	}
}

func sameNumbers(a, b float32) bool { return told(a) == told(b) }

func samePairs(a, b complex64) bool { return toldPair(a) == toldPair(b) }

func sameIntegers(a, b int64) bool { return a == b }

func TestNumbersText(t *testing.T) {
	cases := []struct {
		list []float32
		want string
	}{
		{nil, "none"}, {[]float32{}, "none"}, {[]float32{1, -2}, "3f800000,c0000000"},
		{[]float32{0, number(0x80000000)}, "00000000,80000000"},
		{[]float32{number(0x7f800000), number(0xff800000)}, "7f800000,ff800000"},
		{[]float32{number(0xffc00001), number(0x7f800001)}, "7fc00000,7fc00000"},
		{[]float32{number(0x12345678), number(0x1abcdef1)}, "12345678,1abcdef1"},
		{[]float32{number(1), number(0x807fffff)}, "00000001,807fffff"},
	}
	for _, c := range cases {
		wantText(t, c.list, c.want, impl.NumbersText, impl.ReadNumbers, sameNumbers)
	}
}

func TestComplexText(t *testing.T) {
	cases := []struct {
		list []complex64
		want string
	}{
		{nil, "none"}, {[]complex64{}, "none"}, {[]complex64{1, -2i}, "3f80000000000000,00000000c0000000"},
		{[]complex64{complex(number(0x80000000), number(0xff800000))}, "80000000ff800000"},
		{[]complex64{complex(number(0xffffffff), number(1))}, "7fc0000000000001"},
		{[]complex64{complex(number(0x1abcdef1), number(0x7f800001))}, "1abcdef17fc00000"},
	}
	for _, c := range cases {
		wantText(t, c.list, c.want, impl.ComplexText, impl.ReadComplex, samePairs)
	}
}

func TestNoTextOfNumbers(t *testing.T) {
	for _, s := range []string{
		"", ",", " none", "None", "none,", "none,3f800000", "3f800000,none", "nonenone",
		"3f800000,", ",3f800000", "3f800000,,3f800000", "3f800000, 3f800000", "3f800000;3f800000",
		"3f80000", "3f8000000", "3F800000", "3f80000g", "3f80000G", "3f80000/", "3f80000:", "3f80000`", "3f80000@",
		"-f800000", "+f800000", "0x3f8000", "3f_80000", "3f800000\n", " 3f80000", "3f800000 ",
		// not-a-numbers have one text
		"7fc00001", "ffc00000", "7f800001", "7fffffff", "ffffffff", "3f800000,ffc00000",
		// 8 bytes, or 8 runes, that are no digits
		"3f8000\u00e9", "3f80000\u00e9", "3f80000\xff", "\u0663\u0663\u0663\u0663", "3f80000\x00", "\uff11f800000",
		strings.Repeat("3f800000", 2),
	} {
		wantNoList(t, s, impl.ReadNumbers)
		if len(s) == 8 { // with another number of 8 digits, the same is no text of a complex number
			wantNoList(t, s+"3f800000", impl.ReadComplex)
			wantNoList(t, "3f800000"+s, impl.ReadComplex)
		}
	}
}

func TestNoTextOfComplex(t *testing.T) {
	for _, s := range []string{
		"", ",", "None", "none,", "none,3f80000000000000", "3f80000000000000,none",
		"3f800000", "3f800000,00000000", "3f80000000000000,", ",3f80000000000000",
		"3f800000000000000", "3f8000000000000", "3f80000000000000,3f800000", "3F80000000000000",
		"3f80000000000000 ", " 3f80000000000000", "3f800000 0000000", "3f800000+0000000",
		"7fc0000100000000", "00000000ffc00000", "3f80000000000000,00000000ffc00000",
		"3f80000\u00e9\u00e90000000", "3f8000000000000\xff", "3f80000000000000\n",
	} {
		wantNoList(t, s, impl.ReadComplex)
	}
}

func TestTextLimits(t *testing.T) {
	numbers := strings.Repeat("3f800000,", 255) + "3f800000"
	wantText(t, repeated[float32](1, 256), numbers, impl.NumbersText, impl.ReadNumbers, sameNumbers)
	wantNoText(t, repeated[float32](1, 257), impl.NumbersText)
	wantNoList(t, numbers+",3f800000", impl.ReadNumbers)
	pairs := strings.Repeat("000000003f800000,", 255) + "000000003f800000"
	wantText(t, repeated[complex64](1i, 256), pairs, impl.ComplexText, impl.ReadComplex, samePairs)
	wantNoText(t, repeated[complex64](1i, 257), impl.ComplexText)
	wantNoList(t, pairs+",000000003f800000", impl.ReadComplex)
	integers := strings.Repeat("7,", 63) + "7"
	wantText(t, repeated[int64](7, 64), integers, impl.ListText, impl.ReadList, sameIntegers)
	wantNoText(t, repeated[int64](7, 65), impl.ListText)
	wantNoList(t, integers+",7", impl.ReadList)
}

func TestIsName(t *testing.T) {
	for _, s := range []string{"a", "z", "m", "ring", "abcdefgh", "zzzzzzzz"} {
		wantBool(t, "IsName "+s, impl.IsName(s), true)
	}
	for _, s := range []string{
		"", "abcdefghi", "A", "Ring", "rinG", "r1", "1", "a b", " a", "a ", "a_b", "a-b", "`", "{", "a{", "`a",
		"\u00e9", "a\u00e9", "\xff", "a\x00", "a\n", "\u0430", "abcdefg\u00e9", strings.Repeat("a", 1000),
	} {
		wantBool(t, "IsName "+s, impl.IsName(s), false)
	}
}

func TestDecimal(t *testing.T) {
	cases := []struct {
		n    int64
		want string
	}{
		{0, "0"}, {-4, "-4"}, {7, "7"}, {10, "10"}, {-1000, "-1000"},
		{1000000000000000, "1000000000000000"}, {-1000000000000000, "-1000000000000000"},
		{math.MaxInt64, "9223372036854775807"}, {math.MinInt64, "-9223372036854775808"},
	}
	for _, c := range cases {
		if got := impl.Decimal(c.n); got != c.want {
			t.Errorf("Decimal(%d): got %q", c.n, got)
		}
		n, ok := impl.ReadDecimal(c.want)
		if c.n >= -impl.MaxValue && c.n <= impl.MaxValue && (n != c.n || !ok) {
			t.Errorf("ReadDecimal(%q): got %d %v", c.want, n, ok)
		}
	}
	for n := int64(-1200); n <= 1200; n++ {
		if back, ok := impl.ReadDecimal(impl.Decimal(n)); back != n || !ok {
			t.Errorf("ReadDecimal(Decimal(%d)): got %d %v", n, back, ok)
		}
	}
}

func TestNoDecimal(t *testing.T) {
	for _, s := range []string{
		"", "-", "+", "+1", "-0", "00", "01", "-01", "--1", "1-", " 1", "1 ", "1\n", "1_000", "0x1", "1e3", "1.0", "a", "none",
		"1000000000000001", "-1000000000000001", "01000000000000000", "9223372036854775807", "-9223372036854775808",
		"9223372036854775808", "18446744073709551617", "99999999999999999999999", "\u0661", "1\xff", "1,2", strings.Repeat("0", 1000), strings.Repeat("1", 1000),
	} {
		n, ok := impl.ReadDecimal(s)
		if n != 0 || ok {
			t.Errorf("ReadDecimal(%q): got %d %v, want it to fail", s, n, ok)
		}
		if s != "1,2" {
			wantNoList(t, "5,"+s, impl.ReadList)
		}
	}
}

func TestListText(t *testing.T) {
	const most = 1000000000000000
	cases := []struct {
		list []int64
		want string
	}{
		{nil, "none"}, {[]int64{}, "none"}, {[]int64{0}, "0"}, {[]int64{1, -2, 30}, "1,-2,30"},
		{[]int64{most, -most}, "1000000000000000,-1000000000000000"},
	}
	for _, c := range cases {
		wantText(t, c.list, c.want, impl.ListText, impl.ReadList, sameIntegers)
	}
	for _, list := range [][]int64{{most + 1}, {-most - 1}, {1, most + 1}, {math.MinInt64}, {math.MaxInt64}} {
		wantNoText(t, list, impl.ListText)
	}
}

func TestNoListText(t *testing.T) {
	for _, s := range []string{
		"", ",", "None", "none,", "none,1", "1,none", " none", "1,", ",1", "1,,2", "1, 2", "1;2", "1 2", "1,2\n", "1,-0", "1,+2", "1,02", "-",
		"1000000000000001", "1,-1000000000000001", strings.Repeat(",", 63), strings.Repeat("7,", 64),
	} {
		wantNoList(t, s, impl.ReadList)
	}
}

func TestCheckOf(t *testing.T) {
	cases := []struct {
		start int64
		text  string
		want  int64
	}{
		{0, "", 0}, {65002, "", 65002}, {0, "a", 254}, {0, "ab", (863*254 + 98 + 157) % 65003},
		{65002, "\x00", (863*65002 + 157) % 65003}, {1, "\xff", 863 + 255 + 157}, {0, "\x00", 157},
		{0, "\u00e9", (863*(0xc3+157) + 0xa9 + 157) % 65003},
	}
	for _, c := range cases {
		if got := sumText(t, c.start, c.text); got != c.want {
			t.Errorf("CheckOf(%d, %q): got %d, want %d", c.start, c.text, got, c.want)
		}
	}
	for _, start := range []int64{-1, 65003, 65004, math.MinInt64, math.MaxInt64} {
		for _, s := range []string{"", "a"} {
			if got, ok := impl.CheckOf(start, s); got != 0 || ok {
				t.Errorf("CheckOf(%d, %q): got %d %v, want it to fail", start, s, got, ok)
			}
		}
	}
	// a text in two parts is checked as one
	long := strings.Repeat("rows and columns", 4000)
	if whole, parts := sumText(t, 5, long), sumText(t, sumText(t, 5, long[:777]), long[777:]); whole != parts || whole < 0 || whole >= 65003 {
		t.Errorf("CheckOf a long text: got %d, and %d in two parts", whole, parts)
	}
}
