package tests

import (
	"fmt"
	"math"
	"testing"

	"loop.example/g01327/impl"
)

// goodWholes are valid values of all sides and kinds.
func goodWholes() []impl.Whole {
	list := []impl.Whole{
		integers(1, 1, 0), integers(1, 1, 5), integers(1, 1, -5), integers(1, 1, 1000000), integers(1, 1, -1000000), integers(1, 2, 1, 2), integers(2, 1, 1, 2), integers(2, 2, 1, 2, 3, 4), integers(2, 2, 1, 2, 3, 5), integers(2, 2, -1, 2, 3, 4), integers(2, 2, 0, 0, 0, 0),
		integers(2, 3, 1, 2, 3, 4, 5, 6), integers(3, 2, 1, 2, 3, 4, 5, 6), integers(3, 3, 100, -100, 0, 1, 2, 3, 0, 0, 0),
	}
	for side := int64(1); side <= impl.MaxWhole; side++ {
		list = append(list, allOf(side, impl.MaxWhole, impl.MaxEntry), allOf(impl.MaxWhole, side, -impl.MaxEntry), allOf(side, side, impl.MaxDigit))
	}
	return list
}

func TestLimitsOfWholes(t *testing.T) {
	wantBool(t, "MaxWhole", impl.MaxWhole == 6, true)
	wantBool(t, "MaxEntry", impl.MaxEntry == 1000000, true)
	wantBool(t, "MaxDigit", impl.MaxDigit == 100, true)
}

func TestValidWhole(t *testing.T) {
	for _, w := range goodWholes() {
		wantBool(t, "ValidWhole "+toldWhole(w), impl.ValidWhole(w), true)
	}
	for _, w := range notWholes() {
		wantBool(t, "ValidWhole "+toldWhole(w), impl.ValidWhole(w), false)
	}
	for i := range 36 {
		for _, n := range []int64{1000001, -1000001} {
			w := allOf(6, 6, 3)
			w.Numbers[i] = n
			wantBool(t, "ValidWhole "+toldWhole(w), impl.ValidWhole(w), false)
		}
	}
}

func TestSameWhole(t *testing.T) {
	all := append(goodWholes(), notWholes()...)
	for _, a := range all {
		for _, b := range all {
			wantBool(t, "SameWhole "+toldWhole(a)+" and "+toldWhole(b), impl.SameWhole(a, b), toldWhole(a) == toldWhole(b))
		}
	}
	wantBool(t, "SameWhole nil and empty", impl.SameWhole(impl.Whole{}, integers(0, 0, []int64{}...)), true)
	wantBool(t, "SameWhole of other memory", impl.SameWhole(integers(2, 2, 1, 2, 3, 4), integers(2, 2, 1, 2, 3, 4)), true)
}

func TestUnitWhole(t *testing.T) {
	for n := int64(1); n <= impl.MaxWhole; n++ {
		got, ok := impl.UnitWhole(n)
		wantWhole(t, fmt.Sprint("UnitWhole ", n), got, ok, inMiddle(repeated[int64](1, int(n))...))
	}
	for _, n := range append(outside(), 0) {
		got, ok := impl.UnitWhole(n)
		wantNoWhole(t, fmt.Sprint("UnitWhole ", n), got, ok)
	}
}

func TestFlipWhole(t *testing.T) {
	cases := []struct{ w, want impl.Whole }{
		{integers(2, 2, 1, 2, 3, 4), integers(2, 2, 1, 3, 2, 4)}, {integers(1, 1, -7), integers(1, 1, -7)}, {integers(1, 3, 1, 0, 3), integers(3, 1, 1, 0, 3)}, {integers(2, 3, 1, 2, 3, 4, 5, 6), integers(3, 2, 1, 4, 2, 5, 3, 6)},
		{allOf(6, 1, 1000000), allOf(1, 6, 1000000)}, {allOf(6, 6, -1000000), allOf(6, 6, -1000000)}, {integers(3, 3, 1, 2, 3, 4, 5, 6, 7, 8, 9), integers(3, 3, 1, 4, 7, 2, 5, 8, 3, 6, 9)},
	}
	for _, c := range cases {
		got, ok := impl.FlipWhole(c.w)
		wantWhole(t, "FlipWhole "+toldWhole(c.w), got, ok, c.want)
		got, ok = impl.FlipWhole(c.want)
		wantWhole(t, "FlipWhole "+toldWhole(c.want), got, ok, c.w)
	}
	for _, w := range notWholes() {
		got, ok := impl.FlipWhole(w)
		wantNoWhole(t, "FlipWhole "+toldWhole(w), got, ok)
	}
}

func TestMulWholes(t *testing.T) {
	a := integers(2, 2, 1, 2, 3, 4)
	cases := []struct{ a, b, want impl.Whole }{
		{a, a, integers(2, 2, 7, 10, 15, 22)}, {a, integers(2, 1, 5, -6), integers(2, 1, -7, -9)}, {integers(1, 2, 5, -6), a, integers(1, 2, -13, -14)}, {integers(2, 1, 2, 3), integers(1, 3, 4, 0, -5), integers(2, 3, 8, 0, -10, 12, 0, -15)}, {integers(1, 1, -3), integers(1, 1, -4), integers(1, 1, 12)},
		{integers(2, 3, 1, 0, -1, 2, 5, 0), integers(3, 2, 1, 2, 3, 4, 5, 6), integers(2, 2, -4, -4, 17, 24)}, {inMiddle(1, 1, 1), integers(3, 1, 7, 8, 9), integers(3, 1, 7, 8, 9)}, {allOf(6, 6, 0), allOf(6, 6, 1000000), allOf(6, 6, 0)}, {allOf(6, 6, 1), allOf(6, 6, 5), allOf(6, 6, 30)},
		// results up to their limit, also if what is added is greater
		{integers(1, 1, 1000), integers(1, 1, 1000), integers(1, 1, 1000000)}, {integers(1, 1, -1000), integers(1, 1, 1000), integers(1, 1, -1000000)}, {integers(1, 2, 1000, 1), integers(2, 1, 999, 1000), integers(1, 1, 1000000)}, {integers(1, 2, 1000000, 1000000), integers(2, 1, 1000000, -999999), integers(1, 1, 1000000)},
		{allOf(1, 6, 1000000), integers(6, 1, 1000000, 1000000, 1000000, -1000000, -1000000, -1000000), integers(1, 1, 0)},
	}
	for _, c := range cases {
		got, ok := impl.MulWholes(c.a, c.b)
		wantWhole(t, "MulWholes "+toldWhole(c.a)+" and "+toldWhole(c.b), got, ok, c.want)
	}
}

func TestMulWholesFails(t *testing.T) {
	check := func(a, b impl.Whole) {
		t.Helper()
		got, ok := impl.MulWholes(a, b)
		wantNoWhole(t, "MulWholes "+toldWhole(a)+" and "+toldWhole(b), got, ok)
	}
	for _, w := range notWholes() {
		check(w, integers(1, 1, 0))
		check(integers(1, 1, 0), w)
		check(w, allOf(2, 2, 0))
		check(allOf(2, 2, 0), w)
		check(w, w)
	}
	// other sides
	check(integers(2, 2, 1, 2, 3, 4), integers(1, 1, 1))
	check(integers(1, 2, 1, 2), integers(1, 2, 1, 2))
	check(integers(2, 3, 1, 2, 3, 4, 5, 6), integers(2, 3, 1, 2, 3, 4, 5, 6))
	check(allOf(6, 5, 1), allOf(6, 5, 1))
	// a result is too great
	check(integers(1, 1, 1001), integers(1, 1, 1000))
	check(integers(1, 2, 1000, 1), integers(2, 1, 1000, 1))
	check(integers(1, 2, 1000, -1), integers(2, 1, -1000, 1))
	check(integers(2, 1, 0, 1000), integers(1, 2, 0, 1001))
	check(allOf(6, 6, 1000000), allOf(6, 6, 1000000))
	check(allOf(6, 6, 1000000), allOf(6, 6, -1000000))
}

func TestWholeOf(t *testing.T) {
	below := number(0x3effffff) // the greatest number below a half
	cases := []struct {
		a    impl.Matrix
		by   float32
		want impl.Whole
	}{
		{matrix(1, 2, 1.5, -1.5), 1, integers(1, 2, 2, -1)}, {matrix(2, 2, 0.5, -0.5, 2.5, -2.5), 1, integers(2, 2, 1, 0, 3, -2)}, {matrix(1, 4, 1.25, 1.75, -1.25, -1.75), 1, integers(1, 4, 1, 2, -1, -2)}, {matrix(3, 1, 1, 2, 3), 0.5, integers(3, 1, 1, 1, 2)}, {matrix(3, 1, 1, 2, 3), -0.5, integers(3, 1, 0, -1, -1)},
		{matrix(1, 3, 1, -2, 0.3), 10, integers(1, 3, 10, -20, 3)}, {matrix(1, 3, greatest, -greatest, 1), 0, integers(1, 3, 0, 0, 0)}, {matrix(1, 3, greatest, -5, 1), minusZero, integers(1, 3, 0, 0, 0)}, {matrix(1, 2, 0, minusZero), 1, integers(1, 2, 0, 0)}, {matrix(1, 2, 0, minusZero), -greatest, integers(1, 2, 0, 0)},
		{filled(6, 6, 7), 1, allOf(6, 6, 7)}, {filled(1, 6, -7), 3, allOf(1, 6, -21)}, {filled(6, 1, 7), -3, allOf(6, 1, -21)}, {matrix(2, 3, 1, 2, 3, 4, 5, 6), 1, integers(2, 3, 1, 2, 3, 4, 5, 6)},
		// the product and the sum are rounded, each on its own
		{matrix(1, 2, below, -below), 1, integers(1, 2, 1, 0)}, {matrix(1, 2, number(0x3efffffe), -number(0x3f000001)), 1, integers(1, 2, 0, -1)}, {matrix(1, 4, number(1), -number(1), 1e-30, -1e-9), 1, integers(1, 4, 0, 0, 0, 0)}, {matrix(1, 2, 1e-30, -1e-30), 1e-30, integers(1, 2, 0, 0)},
		{matrix(1, 1, 1+0x1p-11), -0.5 * (1 - 0x1p-11 + 0x1p-22), integers(1, 1, 0)}, {matrix(1, 1, 1e9), 1e-9, integers(1, 1, 1)}, {matrix(1, 1, 1e20), 1e-15, integers(1, 1, 100000)},
		// up to the limit
		{matrix(1, 2, 1000000, -1000000), 1, integers(1, 2, 1000000, -1000000)}, {matrix(1, 3, 1000000.4375, -1000000.5, -1000000.4375), 1, integers(1, 3, 1000000, -1000000, -1000000)}, {matrix(1, 2, 1000, -1000), 1000, integers(1, 2, 1000000, -1000000)}, {matrix(1, 2, 999999.5, -1000000), -1, integers(1, 2, -999999, 1000000)},
	}
	for _, c := range cases {
		got, ok := impl.WholeOf(c.a, c.by)
		wantWhole(t, fmt.Sprint("WholeOf ", c.a, c.by), got, ok, c.want)
	}
}

func TestWholeOfFails(t *testing.T) {
	check := func(a impl.Matrix, by float32) {
		t.Helper()
		got, ok := impl.WholeOf(a, by)
		wantNoWhole(t, fmt.Sprint("WholeOf ", a, by), got, ok)
	}
	for _, a := range notMatrices() {
		check(a, 1)
		check(a, 0)
	}
	for _, by := range notFinite() {
		check(matrix(1, 1, 1), by)
		check(matrix(1, 1, 0), by)
	}
	// matrices with more rows or columns
	check(filled(7, 1, 1), 1)
	check(filled(1, 7, 1), 1)
	check(filled(7, 6, 0), 1)
	check(filled(12, 12, 0), 1)
	// integers that are too great
	for _, x := range []float32{1000000.5, 1000001, -1000000.5625, -1000001, 1e9, -1e9, 3e9, 1e20, -1e20, greatest, -greatest} {
		check(matrix(1, 1, x), 1)
		check(matrix(1, 1, -x), -1)
		check(matrix(2, 2, 1, 2, 3, x), 1)
		check(matrix(2, 2, x, 2, 3, 4), 1)
	}
	check(matrix(1, 1, 1000.5), 1000)
	check(matrix(1, 1, greatest), 2)
	check(matrix(1, 1, greatest), -2)
	check(matrix(1, 1, greatest), greatest)
}

func TestMatrixOf(t *testing.T) {
	cases := []struct {
		w    impl.Whole
		want impl.Matrix
	}{
		{integers(2, 2, 1, 2, 3, 4), matrix(2, 2, 1, 2, 3, 4)}, {integers(1, 3, 0, -1, 999999), matrix(1, 3, 0, -1, 999999)}, {integers(3, 1, -1000000, 1000000, 65537), matrix(3, 1, -1000000, 1000000, 65537)}, {allOf(6, 6, -3), filled(6, 6, -3)}, {allOf(6, 1, 9), filled(6, 1, 9)}, {allOf(1, 6, 9), filled(1, 6, 9)},
	}
	for _, c := range cases {
		got, ok := impl.MatrixOf(c.w)
		wantMatrix(t, "MatrixOf "+toldWhole(c.w), got, ok, c.want)
		back, ok := impl.WholeOf(got, 1)
		wantWhole(t, "WholeOf MatrixOf "+toldWhole(c.w), back, ok, c.w)
	}
	for _, w := range notWholes() {
		got, ok := impl.MatrixOf(w)
		wantNoMatrix(t, "MatrixOf "+toldWhole(w), got, ok)
	}
}

func TestGramOf(t *testing.T) {
	cases := []struct{ w, want impl.Whole }{
		{integers(2, 2, 1, 2, 3, 4), integers(2, 2, 5, 11, 11, 25)}, {integers(1, 3, 1, -2, 2), integers(1, 1, 9)}, {integers(3, 1, 1, -2, 0), integers(3, 3, 1, -2, 0, -2, 4, 0, 0, 0, 0)}, {integers(2, 3, 1, 2, 3, 0, 0, 0), integers(2, 2, 14, 0, 0, 0)}, {integers(2, 2, 1, 2, 2, 4), integers(2, 2, 5, 10, 10, 20)},
		{inMiddle(1, 1, 1, 1, 1, 1), inMiddle(1, 1, 1, 1, 1, 1)}, {allOf(6, 6, 100), allOf(6, 6, 60000)}, {allOf(6, 2, -3), allOf(6, 6, 18)}, {allOf(2, 6, -3), allOf(2, 2, 54)},
		{integers(1, 1, 1000), integers(1, 1, 1000000)}, {integers(1, 1, -1000), integers(1, 1, 1000000)}, {integers(1, 2, 800, -600), integers(1, 1, 1000000)}, {integers(2, 1, 1, -1000), integers(2, 2, 1, -1000, -1000, 1000000)},
	}
	for _, c := range cases {
		got, ok := impl.GramOf(c.w)
		wantWhole(t, "GramOf "+toldWhole(c.w), got, ok, c.want)
	}
	for _, w := range append(notWholes(), integers(1, 1, 1001), integers(1, 1, -1001), integers(1, 2, 1000, 1), integers(2, 2, 1, 0, 1, 1000), integers(1, 1, 1000000), allOf(6, 6, 1000000), allOf(6, 6, -1000000)) {
		got, ok := impl.GramOf(w)
		wantNoWhole(t, "GramOf "+toldWhole(w), got, ok)
	}
}

func TestGcdOf(t *testing.T) {
	cases := []struct{ a, b, want int64 }{
		{-12, 18, 6}, {12, 18, 6}, {12, -18, 6}, {-12, -18, 6}, {0, 0, 0}, {0, 5, 5}, {5, 0, 5}, {0, -5, 5}, {-5, 0, 5}, {1, 1, 1}, {7, 13, 1}, {-1, 0, 1}, {17, 17, 17}, {4, 12, 4}, {12, 4, 4}, {610, 987, 1}, {999999, 1000000, 1},
		{1000000, 1000000, 1000000}, {-1000000, 1000000, 1000000}, {1000000, 0, 1000000}, {0, -1000000, 1000000}, {750000, 1000000, 250000}, {832040, 514229, 1}, {999998, -2, 2},
	}
	for _, c := range cases {
		got, ok := impl.GcdOf(c.a, c.b)
		wantInteger(t, fmt.Sprint("GcdOf ", c.a, c.b), got, ok, c.want)
	}
	for _, n := range []int64{1000001, -1000001, math.MaxInt64, math.MinInt64, 1 << 32} {
		for _, m := range []int64{0, 1, -1000000, n} {
			got, ok := impl.GcdOf(n, m)
			wantNoInteger(t, fmt.Sprint("GcdOf ", n, m), got, ok)
			got, ok = impl.GcdOf(m, n)
			wantNoInteger(t, fmt.Sprint("GcdOf ", m, n), got, ok)
		}
	}
}

func TestContentOf(t *testing.T) {
	cases := []struct {
		w    impl.Whole
		want int64
	}{
		{integers(1, 2, 4, -6), 2}, {integers(1, 1, 0), 0}, {integers(1, 1, -7), 7}, {integers(1, 1, 7), 7}, {integers(2, 2, 0, 0, 0, 0), 0}, {integers(2, 2, 0, 0, 0, -9), 9}, {integers(2, 2, -9, 0, 0, 0), 9}, {integers(2, 3, 12, 18, 24, -30, 0, 42), 6}, {integers(1, 3, 6, 10, 15), 1},
		{integers(3, 1, -4, 8, -12), 4}, {allOf(6, 6, 1000000), 1000000}, {allOf(6, 6, -1000000), 1000000}, {allOf(6, 6, 0), 0}, {allOf(6, 1, 30), 30}, {integers(1, 6, 1000000, 1000000, 1000000, 1000000, 1000000, 999999), 1},
	}
	for _, c := range cases {
		got, ok := impl.ContentOf(c.w)
		wantInteger(t, "ContentOf "+toldWhole(c.w), got, ok, c.want)
	}
	for _, w := range notWholes() {
		got, ok := impl.ContentOf(w)
		wantNoInteger(t, "ContentOf "+toldWhole(w), got, ok)
	}
}
