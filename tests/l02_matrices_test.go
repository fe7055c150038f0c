package tests

import (
	"math"
	"testing"

	"loop.example/g01327/impl"
)

func TestLimitsOfMatrices(t *testing.T) {
	if impl.MaxSide != 12 || impl.MaxCrew != 8 {
		t.Error("a limit of chapter 2 is not what the document says")
	}
}

func TestValidMatrix(t *testing.T) {
	valid := []impl.Matrix{
		matrix(1, 1, 0), matrix(1, 1, minusZero), matrix(1, 1, greatest), matrix(1, 1, number(1)), matrix(1, 2, 1, 2), matrix(2, 1, 1, 2),
		filled(12, 12, 1), filled(12, 1, 1), filled(1, 12, -greatest),
	}
	for _, a := range valid {
		wantBool(t, "ValidMatrix "+toldMatrix(a), impl.ValidMatrix(a), true)
	}
	for _, a := range notMatrices() {
		wantBool(t, "ValidMatrix "+toldMatrix(a), impl.ValidMatrix(a), false)
	}
}

func TestSameMatrix(t *testing.T) {
	list := append(notMatrices(), matrix(1, 1, 0), matrix(1, 1, minusZero), matrix(1, 2, 1, 2), matrix(2, 1, 1, 2), matrix(1, 2, 1, 3), matrix(1, 2, 2, 2),
		matrix(1, 1, infinite), matrix(2, 2, 1, 2, 3, 4), matrix(3, 2, 1, 2, 3, 4), matrix(2, 3, 1, 2, 3, 4))
	for _, a := range list {
		for _, b := range list {
			wantBool(t, "SameMatrix "+toldMatrix(a)+" and "+toldMatrix(b), impl.SameMatrix(a, b), toldMatrix(a) == toldMatrix(b))
		}
	}
	wantBool(t, "not-a-numbers", impl.SameMatrix(matrix(1, 1, number(0x7fc00000)), matrix(1, 1, number(0xff800001))), true)
	wantBool(t, "nil and empty", impl.SameMatrix(impl.Matrix{Rows: 2}, matrix(2, 0, []float32{}...)), true)
}

func TestIsVector(t *testing.T) {
	for _, v := range [][]float32{{0}, {minusZero}, {greatest, -greatest}, {number(1)}, repeated[float32](1, 256)} {
		wantBool(t, "IsVector", impl.IsVector(v), true)
	}
	for _, v := range notVectors() {
		wantBool(t, "IsVector of another list", impl.IsVector(v), false)
	}
	late := repeated[float32](1, 256)
	late[255] = infinite
	wantBool(t, "IsVector with an infinity at last", impl.IsVector(late), false)
}

func TestUnitMatrix(t *testing.T) {
	for n := int64(1); n <= 12; n++ {
		want := filled(n, n, 0)
		for i := range n {
			want.Numbers[i*n+i] = 1
		}
		got, ok := impl.UnitMatrix(n)
		wantMatrix(t, "UnitMatrix", got, ok, want)
	}
	for _, n := range []int64{0, -1, 13, math.MaxInt64, math.MinInt64, 1 << 32} {
		got, ok := impl.UnitMatrix(n)
		wantNoMatrix(t, "UnitMatrix", got, ok)
	}
}

func TestHilbertMatrix(t *testing.T) {
	got, ok := impl.HilbertMatrix(2)
	wantMatrix(t, "the example", got, ok, matrix(2, 2, 1, 0.5, 0.5, number(0x3eaaaaab)))
	got, ok = impl.HilbertMatrix(3)
	wantMatrix(t, "HilbertMatrix 3", got, ok, matrix(3, 3, 1, 0.5, number(0x3eaaaaab), 0.5, number(0x3eaaaaab), 0.25, number(0x3eaaaaab), 0.25, number(0x3e4ccccd)))
	for n := int64(1); n <= 12; n++ {
		want := filled(n, n, 0)
		for i := range n {
			for k := range n {
				want.Numbers[i*n+k] = float32(1 / float64(i+k+1))
			}
		}
		got, ok := impl.HilbertMatrix(n)
		wantMatrix(t, "HilbertMatrix", got, ok, want)
	}
	for _, n := range []int64{0, -1, 13, math.MaxInt64, math.MinInt64, 1 << 32} {
		got, ok := impl.HilbertMatrix(n)
		wantNoMatrix(t, "HilbertMatrix", got, ok)
	}
}

func TestDrawnMatrix(t *testing.T) {
	for _, c := range drawnRows() {
		got, seed, ok := impl.DrawnMatrix(c.rows, c.columns, c.seed)
		if fmtBits(got.Numbers) != fmtBits(numbersOf(c.numbers)) || got.Rows != c.rows || got.Columns != c.columns || seed != c.next || !ok {
			t.Errorf("DrawnMatrix %d %d %d: got %s %d %v", c.rows, c.columns, c.seed, toldMatrix(got), seed, ok)
		}
	}
	// the seeds lead on: two rows are one and then one more
	both, end, _ := impl.DrawnMatrix(2, 12, 77)
	first, seed, _ := impl.DrawnMatrix(1, 12, 77)
	second, last, _ := impl.DrawnMatrix(1, 12, seed)
	wantList(t, "one row and one more", append(first.Numbers, second.Numbers...), end == last, both.Numbers...)
	got, _, ok := impl.DrawnMatrix(12, 12, 1)
	wantBool(t, "DrawnMatrix of 12 and 12", ok && impl.ValidMatrix(got), true)
	for _, c := range [][3]int64{{0, 1, 0}, {1, 0, 0}, {13, 1, 0}, {1, 13, 0}, {-1, -1, 0}, {1, 1, -1}, {1, 1, 2147483648}, {1, 1, math.MaxInt64}, {1, 1, math.MinInt64}, {1 << 32, 1 << 32, 0}} {
		got, seed, ok := impl.DrawnMatrix(c[0], c[1], c[2])
		wantNoMatrix(t, "DrawnMatrix", got, ok)
		wantBool(t, "a seed", seed == 0, true)
	}
}

func TestFlipMatrix(t *testing.T) {
	got, ok := impl.FlipMatrix(matrix(2, 3, 1, 2, 3, 4, minusZero, 6))
	wantMatrix(t, "FlipMatrix", got, ok, matrix(3, 2, 1, 4, 2, minusZero, 3, 6))
	got, ok = impl.FlipMatrix(matrix(1, 1, greatest))
	wantMatrix(t, "FlipMatrix of 1", got, ok, matrix(1, 1, greatest))
	long := drawn(t, 12, 1, 5)
	got, ok = impl.FlipMatrix(long)
	wantMatrix(t, "FlipMatrix of a column", got, ok, matrix(1, 12, long.Numbers...))
	whole := drawn(t, 12, 12, 6)
	got, _ = impl.FlipMatrix(whole)
	wantBool(t, "FlipMatrix of 12", got.Numbers[1*12+11] == whole.Numbers[11*12+1], true)
	got, ok = impl.FlipMatrix(got)
	wantMatrix(t, "FlipMatrix twice", got, ok, whole)
	for _, a := range notMatrices() {
		got, ok := impl.FlipMatrix(a)
		wantNoMatrix(t, "FlipMatrix "+toldMatrix(a), got, ok)
	}
}

func TestWeighMatrices(t *testing.T) {
	near := float32(1 + 0x1p-12)
	cases := []struct {
		a, b impl.Matrix
		x, y float32
		want impl.Matrix
	}{
		{matrix(2, 2, 1, 2, 3, 4), matrix(2, 2, 1, 0, 0, 1), 2, -1, matrix(2, 2, 1, 4, 6, 7)},
		{matrix(1, 3, 1, 2, 3), matrix(1, 3, 10, 20, 30), 1, 1, matrix(1, 3, 11, 22, 33)},
		{matrix(3, 1, 1, 2, 3), matrix(3, 1, 10, 20, 30), 0, 0.5, matrix(3, 1, 5, 10, 15)},
		// both products are rounded before they are added
		{matrix(1, 2, near, -1), matrix(1, 2, -1, near), near, 1 + 0x1p-11, matrix(1, 2, 0, number(0x3a000800))},
		{matrix(1, 1, -(1 + 0x1p-11)), matrix(1, 1, near), 1, near, matrix(1, 1, 0)},
		{matrix(1, 1, 1e30), matrix(1, 1, 1e-30), 1e-30, 1e30, matrix(1, 1, float32(1e30)*float32(1e-30)*2)},
		// a sum of two products only: -0 and -0 is -0
		{matrix(1, 4, 0, minusZero, 0, minusZero), matrix(1, 4, 0, 0, minusZero, minusZero), 1, 1, matrix(1, 4, 0, 0, 0, minusZero)},
		{matrix(1, 2, 0, 1), matrix(1, 2, 0, 1), -1, minusZero, matrix(1, 2, minusZero, -1)},
		{matrix(1, 1, greatest), matrix(1, 1, greatest), 1, -1, matrix(1, 1, 0)},
		{matrix(1, 1, number(1)), matrix(1, 1, number(1)), 1, 1, matrix(1, 1, number(2))},
	}
	for _, c := range cases {
		got, ok := impl.WeighMatrices(c.a, c.b, c.x, c.y)
		wantMatrix(t, "WeighMatrices", got, ok, c.want)
	}
	got, ok := impl.WeighMatrices(filled(12, 12, 1), filled(12, 12, 2), 3, 4)
	wantMatrix(t, "WeighMatrices of 12", got, ok, filled(12, 12, 11))
}

func TestWeighMatricesFails(t *testing.T) {
	one := matrix(1, 1, 1)
	for _, a := range notMatrices() {
		got, ok := impl.WeighMatrices(a, one, 1, 1)
		wantNoMatrix(t, "WeighMatrices "+toldMatrix(a), got, ok)
		got, ok = impl.WeighMatrices(one, a, 1, 1)
		wantNoMatrix(t, "WeighMatrices "+toldMatrix(a), got, ok)
		got, ok = impl.WeighMatrices(a, a, 1, 1)
		wantNoMatrix(t, "WeighMatrices "+toldMatrix(a), got, ok)
	}
	for _, x := range notFinite() {
		got, ok := impl.WeighMatrices(one, one, x, 1)
		wantNoMatrix(t, "WeighMatrices", got, ok)
		got, ok = impl.WeighMatrices(one, one, 1, x)
		wantNoMatrix(t, "WeighMatrices", got, ok)
	}
	cases := []struct {
		a, b impl.Matrix
		x, y float32
	}{
		{matrix(1, 2, 1, 2), matrix(2, 1, 1, 2), 1, 1},
		{matrix(2, 2, 1, 2, 3, 4), matrix(1, 4, 1, 2, 3, 4), 1, 1},
		{matrix(1, 1, greatest), one, 2, 1},
		{one, matrix(1, 1, greatest), 1, 2},
		{matrix(1, 1, greatest), matrix(1, 1, greatest), 1, 1},
		{matrix(1, 2, 1, greatest), matrix(1, 2, 1, -greatest), 2, 2}, // the infinities are a not-a-number
	}
	for _, c := range cases {
		got, ok := impl.WeighMatrices(c.a, c.b, c.x, c.y)
		wantNoMatrix(t, "WeighMatrices", got, ok)
	}
}
