package tests

import (
	"fmt"
	"testing"

	"loop.example/g01327/impl"
)

func TestLimitsOfFew(t *testing.T) {
	wantBool(t, "MaxRing", impl.MaxRing == 32, true)
	wantBool(t, "MaxSheets", impl.MaxSheets == 8, true)
}

// ringWith returns a ring of count numbers, of which the one with the index k is x, and others are 0.
func ringWith(count, k int, x complex64) []complex64 {
	list := make([]complex64, count)
	list[k] = x
	return list
}

func TestSpectrumOf(t *testing.T) {
	cases := []struct{ list, want []complex64 }{
		{[]complex64{1, 1}, []complex64{2, 0}}, {[]complex64{1, -1}, []complex64{0, 2}}, {[]complex64{1i, 1}, []complex64{1 + 1i, -1 + 1i}},
		// one number, and one that is nothing
		{[]complex64{2.5 - 1.5i}, []complex64{2.5 - 1.5i}}, {[]complex64{0}, []complex64{0}}, {pairs(0x80000000, 0x80000000), []complex64{0}}, {pairs(0x80000000, 0), []complex64{0}}, {pairs(1, 0x80000001), pairs(1, 0x80000001)}, {pairs(0x7f7fffff, 0xff7fffff), pairs(0x7f7fffff, 0xff7fffff)},
		// four numbers
		{[]complex64{1, 1, 1, 1}, []complex64{4, 0, 0, 0}}, {[]complex64{0, 1, 0, 0}, []complex64{1, -1i, -1, 1i}}, {[]complex64{0, 0, 0, 1}, []complex64{1, 1i, -1, -1i}}, {[]complex64{1, 2, 3, 4}, []complex64{10, -2 + 2i, -2, -2 - 2i}}, {[]complex64{1i, 0, 2, 0}, []complex64{2 + 1i, -2 + 1i, 2 + 1i, -2 + 1i}},
		// three and five, which are not exact
		{[]complex64{1, 2, 3}, pairs(0x40c00000, 0, 0xbfc00000, 0x3f5db3d6, 0xbfc00000, 0xbf5db3d6)}, {[]complex64{1 + 1i, -2, 0.5i}, pairs(0xbf800000, 0x3fc00000, 0x3fc8930a, 0x401ed9ec, 0x401bb67b, 0xbf7b67ae)},
		{[]complex64{1, 2, 3, 4, 5}, pairs(0x41700000, 0, 0xc0200000, 0x405c389c, 0xc0200000, 0x3f4ff2d8, 0xc0200000, 0xbf4ff2d8, 0xc0200000, 0xc05c389c)}, {[]complex64{1, 1, 1, 1, 1}, pairs(0x40a00000, 0, 0xb3800000, 0x33800000, 0, 0, 0, 0, 0xb3800000, 0xb3800000)},
		// sums in order
		{[]complex64{1 << 24, 1, 1, 0}, []complex64{1 << 24, 1<<24 - 1 - 1i, 1 << 24, 1<<24 - 1 + 1i}}, {[]complex64{1, 0, 1, 1 << 24}, []complex64{1<<24 + 2, 0 + 1<<24*1i, 2 - 1<<24, 0 - 1<<24*1i}},
	}
	for _, c := range cases {
		got, ok := impl.SpectrumOf(c.list)
		wantRing(t, "SpectrumOf "+toldRing(c.list), got, ok, c.want...)
	}
}

func TestFromSpectrum(t *testing.T) {
	cases := []struct{ list, want []complex64 }{
		{[]complex64{2, 0}, []complex64{1, 1}}, {[]complex64{4}, []complex64{4}}, {[]complex64{1i, 1}, []complex64{0.5 + 0.5i, -0.5 + 0.5i}}, {pairs(0x80000000, 0x80000000), []complex64{0}},
		{[]complex64{4, 0, 0, 0}, []complex64{1, 1, 1, 1}}, {[]complex64{0, 1, 0, 0}, []complex64{0.25, 0.25i, -0.25, -0.25i}}, {[]complex64{0, 0, 0, 1}, []complex64{0.25, -0.25i, -0.25, 0.25i}}, {[]complex64{10, -2 + 2i, -2, -2 - 2i}, []complex64{1, 2, 3, 4}},
		// the sum is scaled by 1 divided by 3, at last
		{[]complex64{1, 0, 0}, pairs(0x3eaaaaab, 0, 0x3eaaaaab, 0, 0x3eaaaaab, 0)}, {[]complex64{1 + 1i, -2, 0.5i}, pairs(0xbeaaaaab, 0x3f000000, 0x3f4f9dfa, 0xbea79a74, 0x3f05b75c, 0x3f53cd3b)}, {[]complex64{15, 0, 0, 0, 0}, []complex64{3, 3, 3, 3, 3}},
		// numbers that become subnormal, and nothing
		{pairs(1, 3, 0, 0), pairs(0, 2, 0, 2)}, {pairs(0x00800000, 0x80800000, 0, 0), pairs(0x00400000, 0x80400000, 0x00400000, 0x80400000)},
	}
	for _, c := range cases {
		got, ok := impl.FromSpectrum(c.list)
		wantRing(t, "FromSpectrum "+toldRing(c.list), got, ok, c.want...)
	}
}

// P8: one number of a ring of any length is turned by what PhasorOf tells, backwards or forwards.
func TestSpectraOfOneNumber(t *testing.T) {
	for n := 1; n <= impl.MaxRing; n++ {
		for k := range n {
			back, ahead := make([]complex64, n), make([]complex64, n)
			for m := range n {
				turns := float64(k*m) / float64(n)
				back[m] = impl.PhasorOf(-turns) + 0 // a sum is no -0
				ahead[m] = impl.ScaleComplex(impl.PhasorOf(turns)+0, 1/float32(n))
			}
			got, ok := impl.SpectrumOf(ringWith(n, k, 1))
			wantRing(t, fmt.Sprint("SpectrumOf ", k, " of ", n), got, ok, back...)
			got, ok = impl.FromSpectrum(ringWith(n, k, 1))
			wantRing(t, fmt.Sprint("FromSpectrum ", k, " of ", n), got, ok, ahead...)
		}
	}
}

func TestSpectraFail(t *testing.T) {
	both := map[string]func([]complex64) ([]complex64, bool){"SpectrumOf": impl.SpectrumOf, "FromSpectrum": impl.FromSpectrum}
	tooGreat := [][]complex64{
		ringWith(8, 1, complex(greatest, greatest)), ringWith(8, 7, complex(-greatest, greatest)), // a product is not finite
		{complex(greatest, 0), complex(greatest, 0)}, {complex(greatest, 0), complex(-greatest, 0)}, {complex(0, -greatest), complex(0, -greatest)}, repeated(complex(0, greatest), 32), // a sum is not
	}
	for name, tell := range both {
		for _, list := range append(notRings(), tooGreat...) {
			got, ok := tell(list)
			wantNothing(t, name+" "+toldRing(list), got, ok)
		}
	}
}

func TestRingTimes(t *testing.T) {
	cases := []struct{ ring, v, want []complex64 }{
		{[]complex64{1, 2}, []complex64{3, 4}, []complex64{11, 10}}, {[]complex64{2}, []complex64{3 - 1i}, []complex64{6 - 2i}}, {[]complex64{1 + 2i, 3}, []complex64{1i, 2 - 1i}, []complex64{4 - 2i, 4 + 6i}},
		{[]complex64{1, 2, 3}, []complex64{1, 0, 0}, []complex64{1, 2, 3}}, {[]complex64{1, 2, 3}, []complex64{0, 1, 0}, []complex64{3, 1, 2}}, {[]complex64{1, 2, 3}, []complex64{0, 0, 1}, []complex64{2, 3, 1}}, {[]complex64{0, 1, 0, 0}, []complex64{5, 6, 7, 8}, []complex64{8, 5, 6, 7}},
		// sums begin with 0, and go in order
		{[]complex64{1}, pairs(0x80000000, 0x80000000), []complex64{0}}, {[]complex64{-1}, []complex64{0}, []complex64{0}}, {[]complex64{1, 1, 1}, []complex64{1 << 24, 1, 1}, repeated[complex64](1<<24, 3)}, {[]complex64{1, 1, 1}, []complex64{1, 1, 1 << 24}, repeated[complex64](1<<24+2, 3)}, {[]complex64{1, 1, 1}, []complex64{1i, 1i, 1 << 24 * 1i}, repeated[complex64]((1<<24+2)*1i, 3)},
		// products are narrowed only in the end
		{pairs(0x3f800800, 0x3f800800), pairs(0x3f801001, 0x3f801000), pairs(0x34000800, 0x40001802)}, {pairs(0x7f7fffff, 0), pairs(0x3f800000, 0), pairs(0x7f7fffff, 0)}, {pairs(0x7f7fffff, 0x7f7fffff), []complex64{0.5 + 0.5i}, pairs(0, 0x7f7fffff)}, {pairs(1, 0), []complex64{0.5}, []complex64{0}}, {pairs(3, 0x80000003), []complex64{0.5}, pairs(2, 0x80000002)},
		{repeated[complex64](1i, 32), repeated[complex64](2, 32), repeated[complex64](64i, 32)},
	}
	for _, c := range cases {
		got, ok := impl.RingTimes(c.ring, c.v)
		wantRing(t, "RingTimes "+toldRing(c.ring)+" and "+toldRing(c.v), got, ok, c.want...)
	}
	for n := 1; n <= impl.MaxRing; n++ { // the number k of v moves a ring by k
		ring := make([]complex64, n)
		for i := range ring {
			ring[i] = complex(float32(i+1), float32(-i))
		}
		for k := range n {
			got, ok := impl.RingTimes(ring, ringWith(n, k, 1))
			wantRing(t, "RingTimes moves", got, ok, append(append([]complex64{}, ring[n-k:]...), ring[:n-k]...)...)
		}
	}
}

func TestRingTimesFails(t *testing.T) {
	check := func(ring, v []complex64) {
		t.Helper()
		got, ok := impl.RingTimes(ring, v)
		wantNothing(t, "RingTimes "+toldRing(ring)+" and "+toldRing(v), got, ok)
	}
	for _, list := range notRings() {
		good := repeated[complex64](1, max(1, min(len(list), 32)))
		check(list, good)
		check(good, list)
		check(list, list)
	}
	check([]complex64{1}, []complex64{1, 2})
	check([]complex64{1, 2}, []complex64{1})
	check(repeated[complex64](1, 32), repeated[complex64](1, 31))
	for _, x := range []complex64{2, 1 + 1i, -2i, complex(greatest, 0)} { // a product, or a sum
		check([]complex64{complex(greatest, greatest)}, []complex64{x})
	}
	check([]complex64{1, 1}, []complex64{complex(greatest, 0), complex(greatest, 0)})
	check([]complex64{1, 1}, []complex64{complex(0, -greatest), complex(0, -greatest)})
}

func TestRingSolve(t *testing.T) {
	cases := []struct{ ring, b, want []complex64 }{
		{[]complex64{2}, []complex64{6}, []complex64{3}}, {[]complex64{2i}, []complex64{6}, []complex64{-3i}}, {[]complex64{1, 2}, []complex64{11, 10}, []complex64{3, 4}}, {[]complex64{4, 1, 0, 1}, []complex64{6, 12, 18, 24}, []complex64{-0.5, 2.5, 2.5, 5.5}}, {[]complex64{1, 0, 0, 0}, []complex64{1, 2i, 3, 4i}, []complex64{1, 2i, 3, 4i}},
		{[]complex64{3, 1, 0, 0}, []complex64{7, 5, 9, 13}, pairs(0x3f966666, 0, 0x3fa33334, 0, 0x4024cccc, 0, 0x405e6666, 0)}, {[]complex64{2, 1i, 0, 0}, []complex64{1, 2, 3, 4}, pairs(0x3e088888, 0xbf6eeeee, 0x3f088888, 0xbd888888, 0x3fbbbbbc, 0xbe88888a, 0x3feeeeef, 0xbf3bbbbc)}, {[]complex64{4, 1, 1i}, []complex64{1, 2 - 1i, 3}, pairs(0x3c725dd6, 0xbe1a8246, 0x3f048b5d, 0xbeb74a3a, 0x3f153504, 0x3dafb74b)},
		// numbers that are small, and great
		{pairs(1, 0), pairs(3, 0x80000002), []complex64{3 - 2i}}, {[]complex64{1e-18}, []complex64{1e20}, pairs(0x7e967699, 0)}, {[]complex64{2}, []complex64{0}, []complex64{0}}, {[]complex64{2, 1}, []complex64{0, 0}, []complex64{0, 0}},
	}
	for _, c := range cases {
		got, ok := impl.RingSolve(c.ring, c.b)
		wantRing(t, "RingSolve "+toldRing(c.ring)+" and "+toldRing(c.b), got, ok, c.want...)
	}
	got, ok := impl.RingSolve(ringWith(32, 0, 2), repeated[complex64](6, 32))
	wantBool(t, "RingSolve 32 numbers", ok && len(got) == 32 && real(got[31]) == 3, true)
}

func TestRingSolveFails(t *testing.T) {
	check := func(ring, b []complex64) {
		t.Helper()
		got, ok := impl.RingSolve(ring, b)
		wantNothing(t, "RingSolve "+toldRing(ring)+" and "+toldRing(b), got, ok)
	}
	for _, list := range notRings() {
		good := repeated[complex64](1, max(1, min(len(list), 32)))
		good[0] = 2
		check(list, good)
		check(good, list)
		check(list, list)
	}
	check([]complex64{2}, []complex64{2, 1})
	check([]complex64{2, 1}, []complex64{2})
	check(ringWith(32, 0, 2), ringWith(31, 0, 2))
	// a part of the spectrum is nothing, also where that of b is
	for _, ring := range [][]complex64{{0}, {0, 0}, {1, 1}, {1, -1}, {1, 1, 1, 1}, {1, 0, 1, 0}, {1, 0, -1, 0}, {1, 1i, -1, -1i}, {1i, 1i}} {
		check(ring, ring)
		check(ring, ringWith(len(ring), 0, 1))
		check(ring, make([]complex64, len(ring)))
	}
	// a spectrum, a quotient, or a sum of quotients is not finite
	check([]complex64{complex(greatest, 0), complex(greatest, 0)}, []complex64{1, 2})
	check([]complex64{complex(greatest, 0), complex(greatest, 0)}, []complex64{0, 0})
	check([]complex64{2, 1}, []complex64{complex(greatest, 0), complex(greatest, 0)})
	check([]complex64{1e-20}, []complex64{1e20})
	check(pairs(1, 1), []complex64{1i})
	check([]complex64{0.5, 0}, []complex64{complex(greatest/2, 0), complex(greatest/4, 0)})
	check([]complex64{1, 0}, []complex64{complex(greatest/2, 0), complex(greatest/2, greatest)})
}

// squareCase is a list, and the square that it tells.
type squareCase struct {
	list []float32
	want impl.Matrix
}

// wantSquares checks what a function of lists returns, and that it fails for other lists.
func wantSquares(t *testing.T, name string, tell func([]float32) (impl.Matrix, bool), cases []squareCase) {
	t.Helper()
	for _, c := range cases {
		got, ok := tell(c.list)
		wantMatrix(t, fmt.Sprint(name, c.list), got, ok, c.want)
	}
	for _, list := range notFirstRows() {
		got, ok := tell(list)
		wantNoMatrix(t, fmt.Sprint(name, list), got, ok)
	}
}

func TestRingMatrix(t *testing.T) {
	wantSquares(t, "RingMatrix", impl.RingMatrix, []squareCase{
		{[]float32{1, 2, 3}, matrix(3, 3, 1, 3, 2, 2, 1, 3, 3, 2, 1)}, {[]float32{5}, matrix(1, 1, 5)}, {[]float32{minusZero}, matrix(1, 1, minusZero)}, {[]float32{greatest, number(1)}, matrix(2, 2, greatest, number(1), number(1), greatest)}, {[]float32{1, minusZero, 0, 4}, matrix(4, 4, 1, 4, 0, minusZero, minusZero, 1, 4, 0, 0, minusZero, 1, 4, 4, 0, minusZero, 1)},
		{repeated[float32](7, 12), filled(12, 12, 7)},
	})
}

func TestShiftMatrix(t *testing.T) {
	wantSquares(t, "ShiftMatrix", impl.ShiftMatrix, []squareCase{
		{[]float32{4, 1}, matrix(2, 2, 4, 1, 1, 4)}, {[]float32{1, 2, 3}, matrix(3, 3, 1, 2, 3, 2, 1, 2, 3, 2, 1)}, {[]float32{5}, matrix(1, 1, 5)}, {[]float32{0}, matrix(1, 1, 0)}, {[]float32{minusZero, greatest}, matrix(2, 2, minusZero, greatest, greatest, minusZero)}, {[]float32{-1, number(1), minusZero, 4}, matrix(4, 4, -1, number(1), minusZero, 4, number(1), -1, number(1), minusZero, minusZero, number(1), -1, number(1), 4, minusZero, number(1), -1)},
		{repeated[float32](7, 12), filled(12, 12, 7)},
	})
}
