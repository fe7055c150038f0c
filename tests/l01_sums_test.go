package tests

import (
	"math"
	"testing"

	"loop.example/g01327/impl"
)

func TestSumNumbers(t *testing.T) {
	minus := number(0x80000000)
	inf := float32(math.Inf(1))
	cases := []struct {
		list []float32
		want int64
	}{
		{nil, 0}, {[]float32{}, 0}, {[]float32{minus}, 0}, {[]float32{minus, minus}, 0},
		{[]float32{1, 2, 3.5}, told(6.5)},
		// rounded after each number, from left to right
		{[]float32{1e8, 1, -1e8}, 0}, {[]float32{1, 1e8, -1e8}, 0}, {[]float32{1e8, -1e8, 1}, told(1)},
		{[]float32{1, 0x1p-24, 0x1p-24}, told(1)}, {[]float32{0x1p-24, 0x1p-24, 1}, told(1 + 0x1p-23)},
		{[]float32{math.MaxFloat32, math.MaxFloat32, -math.MaxFloat32}, 0x7f800000},
		{[]float32{inf, -inf}, noNumberBits}, {[]float32{1, number(0x7fc00000), 1}, noNumberBits},
		{[]float32{number(1), number(2)}, 3},
	}
	for _, c := range cases {
		got, ok := impl.SumNumbers(c.list)
		wantBool(t, "SumNumbers", ok, true)
		wantNumber(t, "SumNumbers", got, c.want)
	}
	got, ok := impl.SumNumbers(repeated[float32](2, 256))
	wantBool(t, "SumNumbers of 256", ok, true)
	wantNumber(t, "SumNumbers of 256", got, told(512))
	got, ok = impl.SumNumbers(repeated[float32](2, 257))
	wantBool(t, "SumNumbers of 257", ok, false)
	wantNumber(t, "SumNumbers of 257", got, 0)
}

func TestDotNumbers(t *testing.T) {
	near := float32(1 + 0x1p-12)
	inf := float32(math.Inf(1))
	cases := []struct {
		a, b []float32
		want int64
	}{
		{nil, nil, 0}, {[]float32{}, nil, 0}, {[]float32{-1}, []float32{0}, 0},
		{[]float32{1, 2}, []float32{3, 4}, told(11)},
		// the product of near and itself is rounded before it is added
		{[]float32{1 + 0x1p-11, near}, []float32{-1, near}, 0},
		{[]float32{1e8, 1, 1e8}, []float32{1, 1, -1}, 0},
		{[]float32{1e30, 1e30}, []float32{1e30, -1e30}, noNumberBits},
		{[]float32{0}, []float32{inf}, noNumberBits}, {[]float32{1}, []float32{-inf}, 0xff800000},
		{[]float32{number(1)}, []float32{0.5}, 0}, {[]float32{number(3)}, []float32{0.5}, 2},
	}
	for _, c := range cases {
		got, ok := impl.DotNumbers(c.a, c.b)
		wantBool(t, "DotNumbers", ok, true)
		wantNumber(t, "DotNumbers", got, c.want)
	}
	got, ok := impl.DotNumbers(repeated[float32](3, 256), repeated[float32](2, 256))
	wantBool(t, "DotNumbers of 256", ok, true)
	wantNumber(t, "DotNumbers of 256", got, told(1536))
	for _, sides := range [][2]int{{257, 257}, {1, 0}, {0, 1}, {2, 3}, {256, 257}, {257, 256}} {
		got, ok := impl.DotNumbers(repeated[float32](1, sides[0]), repeated[float32](1, sides[1]))
		wantBool(t, "DotNumbers of other lengths", ok, false)
		wantNumber(t, "DotNumbers of other lengths", got, 0)
	}
}

func TestSumComplex(t *testing.T) {
	minus := number(0x80000000)
	cases := []struct {
		list []complex64
		want [2]int64
	}{
		{nil, [2]int64{0, 0}}, {[]complex64{}, [2]int64{0, 0}},
		{[]complex64{complex(minus, minus)}, [2]int64{0, 0}},
		{[]complex64{1, complex(2, 3)}, toldPair(complex(3, 3))},
		{[]complex64{complex(1e8, 1), complex(1, 1e8), complex(-1e8, -1e8)}, [2]int64{0, 0}},
		{[]complex64{complex(number(0x7f800000), 1), complex(number(0xff800000), 1)}, [2]int64{noNumberBits, 0x40000000}},
	}
	for _, c := range cases {
		got, ok := impl.SumComplex(c.list)
		wantBool(t, "SumComplex", ok, true)
		wantComplex(t, "SumComplex", got, c.want)
	}
	got, ok := impl.SumComplex(repeated[complex64](complex(1, 2), 256))
	wantBool(t, "SumComplex of 256", ok, true)
	wantComplex(t, "SumComplex of 256", got, toldPair(complex(256, 512)))
	got, ok = impl.SumComplex(repeated[complex64](1, 257))
	wantBool(t, "SumComplex of 257", ok, false)
	wantComplex(t, "SumComplex of 257", got, [2]int64{0, 0})
}

func TestDotComplex(t *testing.T) {
	near := float32(1 + 0x1p-12)
	inf := float32(math.Inf(1))
	cases := []struct {
		a, b            []complex64
		dot, conjugates [2]int64
	}{
		{nil, nil, [2]int64{0, 0}, [2]int64{0, 0}},
		{[]complex64{}, nil, [2]int64{0, 0}, [2]int64{0, 0}},
		{[]complex64{1i}, []complex64{1i}, toldPair(-1), toldPair(1)},
		{[]complex64{1 + 2i, 3}, []complex64{3 - 1i, 2i}, toldPair(5 + 11i), toldPair(1 - 1i)},
		// parts of a product are told with 64 bits, and narrowed before they are added
		{[]complex64{complex(near, 1)}, []complex64{complex(near, 1+0x1p-11)}, toldPair(complex(0x1p-24, 2+0x1p-10)), toldPair(complex(2+0x1p-10, 0x1p-11+0x1p-23))},
		{[]complex64{complex(1+0x1p-11, 0), complex(near, 0)}, []complex64{-1, complex(near, 0)}, [2]int64{0, 0}, [2]int64{0, 0}},
		{[]complex64{complex(inf, 0)}, []complex64{1}, [2]int64{0x7f800000, noNumberBits}, [2]int64{0x7f800000, noNumberBits}},
	}
	for _, c := range cases {
		dot, first := impl.DotComplex(c.a, c.b)
		conjugates, second := impl.DotConjugate(c.a, c.b)
		wantBool(t, "DotComplex", first, true)
		wantBool(t, "DotConjugate", second, true)
		wantComplex(t, "DotComplex", dot, c.dot)
		wantComplex(t, "DotConjugate", conjugates, c.conjugates)
	}
}

func TestDotComplexLengths(t *testing.T) {
	many := repeated[complex64](1i, 256)
	dot, first := impl.DotComplex(many, many)
	conjugates, second := impl.DotConjugate(many, many)
	wantBool(t, "DotComplex of 256", first, true)
	wantBool(t, "DotConjugate of 256", second, true)
	wantComplex(t, "DotComplex of 256", dot, toldPair(-256))
	wantComplex(t, "DotConjugate of 256", conjugates, toldPair(256))
	for _, sides := range [][2]int{{257, 257}, {1, 0}, {0, 1}, {2, 3}, {256, 257}, {257, 256}} {
		a, b := repeated[complex64](1, sides[0]), repeated[complex64](1, sides[1])
		dot, first := impl.DotComplex(a, b)
		conjugates, second := impl.DotConjugate(a, b)
		wantBool(t, "DotComplex of other lengths", first, false)
		wantBool(t, "DotConjugate of other lengths", second, false)
		wantComplex(t, "DotComplex of other lengths", dot, [2]int64{0, 0})
		wantComplex(t, "DotConjugate of other lengths", conjugates, [2]int64{0, 0})
	}
}

func TestPowersOf(t *testing.T) {
	cases := []struct {
		list []complex64
		want int64
	}{
		{nil, 0}, {[]complex64{}, 0}, {[]complex64{3 + 4i, 1}, told(26)},
		{[]complex64{complex(number(0x80000000), number(0x80000000))}, 0},
		// 32-bit sums would lose both 1, and 32-bit powers be too great
		{[]complex64{0x1p12, 1, 1}, told(0x1p24 + 2)},
		{[]complex64{0x1p-75, 0x1p-75}, 1},
		{[]complex64{1e30}, 0x7f800000}, {[]complex64{complex(0, number(0xff800000))}, 0x7f800000},
		{[]complex64{1, complex(1, number(0x7fc00000))}, noNumberBits},
	}
	for _, c := range cases {
		got, ok := impl.PowersOf(c.list)
		wantBool(t, "PowersOf", ok, true)
		wantNumber(t, "PowersOf", got, c.want)
	}
	got, ok := impl.PowersOf(repeated[complex64](1+1i, 256))
	wantBool(t, "PowersOf 256", ok, true)
	wantNumber(t, "PowersOf 256", got, told(512))
	got, ok = impl.PowersOf(repeated[complex64](1, 257))
	wantBool(t, "PowersOf 257", ok, false)
	wantNumber(t, "PowersOf 257", got, 0)
}
