package tests

import (
	"testing"

	"loop.example/g01327/impl"
)

func TestRootOfSquare(t *testing.T) {
	near := float32(1 + 0x1p-12)
	cases := []struct{ a, want impl.Matrix }{
		{matrix(2, 2, 4, 2, 2, 2), matrix(2, 2, 2, 0, 1, 1)}, // the example
		// only numbers up to the middle are taken
		{matrix(2, 2, 4, -99, 2, 2), matrix(2, 2, 2, 0, 1, 1)},
		{matrix(3, 3, 9, greatest, -greatest, -3, 17, minusZero, 6, 10, 30), matrix(3, 3, 3, 0, 0, -1, 4, 0, 2, 3, number(0x4083f07b))},
		{matrix(1, 1, 9), matrix(1, 1, 3)}, {matrix(1, 1, number(1)), matrix(1, 1, 0x1.6a09e6p-75)}, {matrix(1, 1, greatest), matrix(1, 1, number(0x5f7fffff))},
		{matrix(2, 2, 4, 0, minusZero, 9), matrix(2, 2, 2, 0, minusZero, 3)},
		// a product is rounded before it is taken away
		{matrix(2, 2, 1, 0, near, 2+0x1p-11), matrix(2, 2, 1, 0, near, 1)},
		// products are taken away one after another: 1 and 1 are lost
		{matrix(4, 4, 1, 0, 0, 0, 0, 1, 0, 0, 1, 1, 3, 0, 1, 1, -1<<24, 1<<50), matrix(4, 4, 1, 0, 0, 0, 0, 1, 0, 0, 1, 1, 1, 0, 1, 1, -1<<24, number(0x4bddb3d7))},
		{middle(repeated[float32](4, 12)...), middle(repeated[float32](2, 12)...)},
	}
	for _, c := range cases {
		got, ok := impl.RootOfSquare(c.a)
		wantMatrix(t, "RootOfSquare "+toldMatrix(c.a), got, ok, c.want)
		got, shift, ok := impl.RootShifted(c.a, 1)
		wantMatrix(t, "RootShifted "+toldMatrix(c.a), got, ok, c.want)
		wantNumber(t, "no shift", shift, 0)
	}
}

// notRoots are squares that have no root.
func notRoots() []impl.Matrix {
	return []impl.Matrix{
		matrix(1, 1, -1), matrix(1, 1, 0), matrix(1, 1, minusZero), matrix(2, 2, 0, 0, 0, 1), matrix(2, 2, -1, 0, 0, 1), matrix(2, 2, 1, 1, 1, 1), matrix(2, 2, 1, 2, 2, 3),
		matrix(2, 2, 1, 0, 1+0x1p-12, 1+0x1p-11), middle(1, 1, 1, -1), filled(12, 12, 1), filled(12, 12, 0),
		// numbers that are not finite
		matrix(2, 2, 1e-38, 0, greatest, 1), matrix(2, 2, 1, 0, 1e20, greatest), matrix(3, 3, 1, 0, 0, 1e19, 2e38, 0, -1e20, 1, 1),
	}
}

func TestRootOfSquareFails(t *testing.T) {
	for _, a := range append(notSquares(), notRoots()...) {
		got, ok := impl.RootOfSquare(a)
		wantNoMatrix(t, "RootOfSquare "+toldMatrix(a), got, ok)
	}
}

func TestRootShifted(t *testing.T) {
	cases := []struct {
		a     impl.Matrix
		start float32
		root  impl.Matrix
		shift float32
	}{
		{matrix(1, 1, -1), 0.5, matrix(1, 1, 1), 2}, {matrix(1, 1, -1), 5, matrix(1, 1, 2), 5}, {matrix(1, 1, 0), 4, matrix(1, 1, 2), 4}, {matrix(1, 1, minusZero), 1, matrix(1, 1, 1), 1},
		{matrix(2, 2, 1, 9, 1, 1), 3, matrix(2, 2, 2, 0, 0.5, number(0x3ff7def6)), 3},
		{matrix(2, 2, 0, 9, 4, 1), 1, matrix(2, 2, 2, 0, 2, 1), 4},
		// with the first shift, a number of the middle is 0
		{middle(-1, 8), 1, middle(1, number(0x404a62c2)), 2},
		// 24 times in all: the last shift is 2 to the power of 22 times the first one
		{matrix(1, 1, -1), 0x1.8p-22, matrix(1, 1, number(0x3f3504f3)), 1.5},
		{matrix(1, 1, -0x1p21), 1, matrix(1, 1, number(0x44b504f3)), 0x1p22},
		{matrix(1, 1, 0), number(1), matrix(1, 1, 0x1.6a09e6p-75), number(1)},
		// the great number stays as it is
		{middle(greatest, -1), 1, middle(number(0x5f7fffff), 1), 2},
		{matrix(1, 1, -0x1p126), 0x1p105, matrix(1, 1, 0x1p63), 0x1p127},
		{middle(repeated[float32](-1, 12)...), 2, middle(repeated[float32](1, 12)...), 2},
	}
	for _, c := range cases {
		root, shift, ok := impl.RootShifted(c.a, c.start)
		wantMatrix(t, "RootShifted "+toldMatrix(c.a), root, ok, c.root)
		wantResult(t, "the shift for "+toldMatrix(c.a), shift, ok, c.shift)
	}
}

func TestRootShiftedFails(t *testing.T) {
	wantNone := func(a impl.Matrix, start float32) {
		t.Helper()
		root, shift, ok := impl.RootShifted(a, start)
		wantNoMatrix(t, "RootShifted "+toldMatrix(a), root, ok)
		wantNoResult(t, "the shift for "+toldMatrix(a), shift, ok)
	}
	for _, a := range notSquares() {
		wantNone(a, 1)
	}
	for _, start := range append(notFinite(), 0, minusZero, -1, number(0x80000001), -greatest) {
		wantNone(matrix(1, 1, 4), start) // even where no shift is needed
		wantNone(matrix(1, 1, -1), start)
	}
	// a shift more would be enough
	wantNone(matrix(1, 1, -1), 0x1.8p-23)
	wantNone(matrix(1, 1, -1), 0x1p-22)
	wantNone(matrix(1, 1, -0x1p22), 1)
	wantNone(matrix(1, 1, -1), number(1))
	// the shift, or the middle with it, would not be finite
	wantNone(matrix(1, 1, -greatest), greatest)
	wantNone(matrix(1, 1, -greatest), 0x1p127)
	wantNone(matrix(1, 1, -0x1p127), 0x1p104)
	wantNone(middle(greatest, -1e38), 1e38)
}

func TestRootSolve(t *testing.T) {
	big := float32(1 << 24)
	near := float32(1 + 0x1p-12)
	cases := []struct {
		root impl.Matrix
		b, x []float32
	}{
		{matrix(2, 2, 2, 0, 1, 1), []float32{8, 6}, []float32{1, 2}},
		// numbers above the middle are not taken
		{matrix(2, 2, 2, 77, 1, 1), []float32{8, 6}, []float32{1, 2}},
		{matrix(3, 3, 2, -greatest, minusZero, 1, 1, greatest, -3, 2, 4), []float32{4, 5, 32}, []float32{4.5, -1, 2}},
		{matrix(1, 1, 2), []float32{minusZero}, []float32{minusZero}}, {matrix(1, 1, number(0x20000000)), []float32{number(1)}, []float32{0x1p-23}},
		// products are taken away one after another, and each of them is rounded
		{matrix(3, 3, 1, 0, 0, 0, 1, 0, 1, 1, 1), []float32{-1, -1, big}, []float32{-big, -big, big}},
		{matrix(3, 3, 1, 0, 0, 1, 1, 0, 1, 0, 1), []float32{big, big - 1, big - 1}, []float32{big, -1, -1}},
		{matrix(2, 2, 1, 0, near, 1), []float32{near, 1 + 0x1p-11}, []float32{near, 0}},
		{middle(repeated[float32](2, 12)...), repeated[float32](8, 12), repeated[float32](2, 12)},
	}
	for _, c := range cases {
		got, ok := impl.RootSolve(c.root, c.b)
		wantList(t, "RootSolve "+toldMatrix(c.root), got, ok, c.x...)
	}
}

func TestRootSolveFails(t *testing.T) {
	root := matrix(2, 2, 2, 0, 1, 1)
	for _, b := range notPairs() {
		got, ok := impl.RootSolve(root, b)
		wantNothing(t, "RootSolve", got, ok)
	}
	for _, a := range append(notSquares(), matrix(1, 1, 0), matrix(1, 1, minusZero), matrix(1, 1, -1), middle(1, 0), middle(0, 1), middle(1, -2), middle(minusZero, 1), filled(12, 12, 0)) {
		for _, b := range [][]float32{{1}, {1, 2}, {0, 0}, repeated[float32](1, 12)} {
			got, ok := impl.RootSolve(a, b)
			wantNothing(t, "RootSolve "+toldMatrix(a), got, ok)
		}
	}
	for _, a := range []impl.Matrix{middle(1e-30, 1), middle(1, number(1)), matrix(2, 2, 1, 0, greatest, greatest), matrix(2, 2, 1, 0, greatest, 1e-10)} {
		got, ok := impl.RootSolve(a, []float32{4, 4})
		wantNothing(t, "RootSolve "+toldMatrix(a), got, ok)
	}
}

func TestMiddleFactor(t *testing.T) {
	near := float32(1 + 0x1p-12)
	cases := []struct {
		a, lower impl.Matrix
		middle   []float32
	}{
		{matrix(2, 2, 4, 2, 2, 3), matrix(2, 2, 1, 0, 0.5, 1), []float32{4, 2}},
		// only numbers up to the middle are taken
		{matrix(2, 2, 4, -greatest, 2, 3), matrix(2, 2, 1, 0, 0.5, 1), []float32{4, 2}},
		{matrix(3, 3, -2, 0, 9, 1, 4, 7, 4, minusZero, 1), matrix(3, 3, 1, 0, 0, -0.5, 1, 0, -2, number(0x3ee38e39), 1), []float32{-2, 4.5, number(0x4101c71c)}},
		{matrix(1, 1, -7), matrix(1, 1, 1), []float32{-7}}, {matrix(1, 1, number(0x80000001)), matrix(1, 1, 1), []float32{number(0x80000001)}},
		// a zero below the middle has the sign of the quotient
		{middle(-3, 5), matrix(2, 2, 1, 0, minusZero, 1), []float32{-3, 5}},
		{middle(repeated[float32](2, 12)...), middle(repeated[float32](1, 12)...), repeated[float32](2, 12)},
		// products go from left to right, and are rounded
		{matrix(2, 2, 0x1p100, 0, 0x1p20, 0x1p-59), matrix(2, 2, 1, 0, 0x1p-80, 1), []float32{0x1p100, 0x1p-60}},
		{matrix(3, 3, 0x1p100, 0, 0, 0x1p20, 0x1p-58, 0, 0x1p20, 0, 1), matrix(3, 3, 1, 0, 0, 0x1p-80, 1, 0, 0x1p-80, number(0xbeaaaaab), 1), []float32{0x1p100, 0x1.8p-59, 1}},
		{matrix(2, 2, 1, 0, near, 2+0x1p-11), matrix(2, 2, 1, 0, near, 1), []float32{1, 1}},
	}
	for _, c := range cases {
		lower, list, ok := impl.MiddleFactor(c.a)
		wantMatrix(t, "MiddleFactor "+toldMatrix(c.a), lower, ok, c.lower)
		wantList(t, "the middle of "+toldMatrix(c.a), list, ok, c.middle...)
	}
}

func TestMiddleFactorFails(t *testing.T) {
	for _, a := range append(notSquares(),
		matrix(1, 1, 0), matrix(1, 1, minusZero), matrix(2, 2, 0, 1, 1, 0), filled(2, 2, 3), middle(1, 2, 0), middle(1, 0, 2), filled(12, 12, 1), matrix(2, 2, 1, 0, 1+0x1p-12, 1+0x1p-11),
		// numbers that are not finite
		matrix(2, 2, 1e-38, 0, 1e10, 1), matrix(2, 2, 1, 0, 1e20, 1), matrix(2, 2, 1e-20, 0, 1e19, 1), matrix(3, 3, 1, 0, 0, 1e19, 1, 0, 1e20, 1, 1)) {
		lower, list, ok := impl.MiddleFactor(a)
		wantNoMatrix(t, "MiddleFactor "+toldMatrix(a), lower, ok)
		wantNothing(t, "the middle of "+toldMatrix(a), list, ok)
	}
}
