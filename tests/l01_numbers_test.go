package tests

import (
	"math"
	"testing"

	"loop.example/g01327/impl"
)

func TestExamplesOfNumbers(t *testing.T) {
	wantComplex(t, "product", impl.MulComplex(complex(1, 2), complex(3, -1)), toldPair(complex(5, 5)))
	wantComplex(t, "quotient", impl.QuotientOf(complex(0, 4), 2), toldPair(complex(0, 2)))
	phasor := impl.PhasorOf(0.25)
	wantComplex(t, "phasor", phasor, toldPair(complex(0, 1)))
	wantNumber(t, "angle", impl.AngleOf(phasor), told(0.25))
	if text, ok := impl.ComplexText([]complex64{1}); text != "3f80000000000000" || !ok {
		t.Errorf("the text of 1: got %q %v", text, ok)
	}
	if tenths, ok := impl.TenthsOf(1); tenths != 0 || !ok {
		t.Errorf("the tenths of 1: got %d %v", tenths, ok)
	}
}

func TestSameNumber(t *testing.T) {
	for _, a := range specials() {
		for _, b := range specials() {
			x, y := number(a), number(b)
			want := told(x) == told(y)
			wantBool(t, "SameNumber", impl.SameNumber(x, y), want)
			wantBool(t, "SameComplex, real parts", impl.SameComplex(complex(x, 1), complex(y, 1)), want)
			wantBool(t, "SameComplex, imaginary parts", impl.SameComplex(complex(1, x), complex(1, y)), want)
		}
	}
	wantBool(t, "+0 and -0", impl.SameNumber(0, number(0x80000000)), false)
	wantBool(t, "two not-a-numbers", impl.SameNumber(number(0x7fc00000), number(0xff800001)), true)
}

func TestIsFinite(t *testing.T) {
	for _, bits := range specials() {
		x := number(bits)
		want := bits&0x7f800000 != 0x7f800000
		wantBool(t, "IsFinite", impl.IsFinite(x), want)
		wantBool(t, "IsFiniteComplex, real part", impl.IsFiniteComplex(complex(x, 0)), want)
		wantBool(t, "IsFiniteComplex, imaginary part", impl.IsFiniteComplex(complex(0, x)), want)
	}
}

func TestBits(t *testing.T) {
	for _, bits := range append(specials(), spread(2000)...) {
		x, ok := impl.FromBits(bits)
		wantBool(t, "FromBits", ok, true)
		wantNumber(t, "FromBits", x, told(number(bits)))
		if got := impl.BitsOf(number(bits)); got != told(number(bits)) {
			t.Errorf("BitsOf %08x: got %08x", bits, got)
		}
	}
	if got := impl.BitsOf(float32(math.NaN())); got != 2143289344 {
		t.Errorf("BitsOf a not-a-number: got %d", got)
	}
	if got := impl.BitsOf(number(0xffffffff)); got != 2143289344 {
		t.Errorf("BitsOf another not-a-number: got %d", got)
	}
	if _, ok := impl.FromBits(4294967295); !ok {
		t.Error("FromBits(4294967295) failed")
	}
	for _, n := range []int64{-1, 4294967296, 4294967296 + 0x3f800000, math.MinInt64, math.MaxInt64} {
		x, ok := impl.FromBits(n)
		wantBool(t, "FromBits of no bits", ok, false)
		wantNumber(t, "FromBits of no bits", x, 0)
	}
}

func TestNarrow(t *testing.T) {
	cases := []struct {
		x    float64
		bits int64
	}{
		{0, 0}, {math.Copysign(0, -1), 0x80000000}, {0.5, 0x3f000000}, {-2, 0xc0000000},
		{math.Inf(1), 0x7f800000}, {math.Inf(-1), 0xff800000}, {math.NaN(), noNumberBits},
		// ties go to the even number, and what is a little more or less does not
		{1 + 0x1p-24, 0x3f800000}, {1 + 3*0x1p-24, 0x3f800002}, {1 + 0x1p-24 + 0x1p-52, 0x3f800001},
		{1 + 3*0x1p-24 - 0x1p-52, 0x3f800001}, {-1 - 0x1p-24, 0xbf800000},
		// the greatest number, and the tie between it and what would come next
		{math.MaxFloat32, 0x7f7fffff}, {0x1.fffffefffffffp127, 0x7f7fffff},
		{0x1.ffffffp127, 0x7f800000}, {-0x1.ffffffp127, 0xff800000}, {1e300, 0x7f800000},
		// subnormal numbers, and what is next to a zero
		{0x1p-149, 1}, {0x1p-150, 0}, {-0x1p-150, 0x80000000}, {0x1.0000000000001p-150, 1},
		{3 * 0x1p-150, 2}, {0x1p-126 - 0x1p-150, 0x00800000}, {5e-324, 0}, {-5e-324, 0x80000000},
	}
	for _, c := range cases {
		wantNumber(t, "NarrowNumber", impl.NarrowNumber(c.x), c.bits)
		wantComplex(t, "NarrowComplex", impl.NarrowComplex(complex(c.x, 1)), [2]int64{c.bits, 0x3f800000})
		wantComplex(t, "NarrowComplex", impl.NarrowComplex(complex(1, c.x)), [2]int64{0x3f800000, c.bits})
	}
}

func TestSubnormal(t *testing.T) {
	for _, bits := range append(specials(), spread(500)...) {
		x := number(bits)
		want := bits&0x7f800000 == 0 && bits&0x007fffff != 0
		wantBool(t, "IsSubnormal", impl.IsSubnormal(x), want)
		flushed := told(x)
		if want {
			flushed = bits & 0x80000000
		}
		wantNumber(t, "FlushNumber", impl.FlushNumber(x), flushed)
	}
	wantNumber(t, "a flushed negative number", impl.FlushNumber(number(0x80000001)), 0x80000000)
	wantNumber(t, "a flushed positive number", impl.FlushNumber(number(0x007fffff)), 0)
	wantNumber(t, "the least normal number", impl.FlushNumber(number(0x00800000)), 0x00800000)
}

func TestPairs(t *testing.T) {
	for _, row := range pairRows {
		x, y := pair([2]int64{row.a, row.b}), pair([2]int64{row.c, row.d})
		wantComplex(t, "MulComplex", impl.MulComplex(x, y), [2]int64{row.productReal, row.productImag})
		wantComplex(t, "QuotientOf", impl.QuotientOf(x, y), [2]int64{row.quotientReal, row.quotientImag})
		wantComplex(t, "ScaleComplex", impl.ScaleComplex(x, real(y)), [2]int64{row.scaledReal, row.scaledImag})
		wantNumber(t, "PowerOf", impl.PowerOf(x), row.power)
		wantNumber(t, "LongOf", impl.LongOf(x), row.long)
	}
}

func TestComplexEdges(t *testing.T) {
	inf := float32(math.Inf(1))
	// parts are products of numbers: an infinity does not make a not-a-number of the other part
	wantComplex(t, "ScaleComplex", impl.ScaleComplex(complex(inf, 1), 2), [2]int64{0x7f800000, 0x40000000})
	wantComplex(t, "ScaleComplex", impl.ScaleComplex(complex(inf, 1), 0), [2]int64{noNumberBits, 0})
	wantComplex(t, "ScaleComplex", impl.ScaleComplex(complex(0, 1), -1), [2]int64{0x80000000, 0xbf800000})
	// a product of complex numbers does so, as IEEE 754 has it
	wantComplex(t, "MulComplex", impl.MulComplex(complex(inf, 0), 1), [2]int64{0x7f800000, noNumberBits})
	// a quotient by zero divides both parts by it
	wantComplex(t, "QuotientOf", impl.QuotientOf(complex(1, 1), 0), [2]int64{noNumberBits, noNumberBits})
	wantComplex(t, "QuotientOf", impl.QuotientOf(complex(inf, 1), 0), [2]int64{noNumberBits, noNumberBits})
	wantNumber(t, "LongOf what is too great for a power", impl.LongOf(complex(3e30, 4e30)), told(5e30))
	wantNumber(t, "PowerOf", impl.PowerOf(complex(3e30, 4e30)), 0x7f800000)
	wantNumber(t, "LongOf what is too small for a power", impl.LongOf(complex(number(3), number(4))), 5)
	for _, bits := range specials() {
		x := complex(number(bits), number(bits))
		opposite := told(number(bits ^ 0x80000000))
		wantComplex(t, "ConjugateOf", impl.ConjugateOf(x), [2]int64{told(number(bits)), opposite})
	}
}

func TestRootNumber(t *testing.T) {
	for _, row := range powerRows {
		wantNumber(t, "RootNumber", impl.RootNumber(number(row.x)), row.root)
	}
	wantNumber(t, "the root of -0", impl.RootNumber(number(0x80000000)), 0x80000000)
	wantNumber(t, "the root of -1", impl.RootNumber(-1), noNumberBits)
	wantNumber(t, "the root of the negative infinity", impl.RootNumber(number(0xff800000)), noNumberBits)
	for n := range 1000 {
		wantNumber(t, "the root of a square", impl.RootNumber(float32(n*n)), told(float32(n)))
	}
}
