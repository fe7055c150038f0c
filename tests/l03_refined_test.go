package tests

import (
	"fmt"
	"math"
	"testing"

	"loop.example/g01327/impl"
)

func TestLongResidual(t *testing.T) {
	near := float32(1 + 0x1p-12)
	cases := []struct {
		a          impl.Matrix
		x, b, want []float32
	}{
		{matrix(2, 2, 1, 2, 4, 4), []float32{1, 1}, []float32{4, 8}, []float32{1, 0}},
		{matrix(1, 3, 1, 2, 3), []float32{1, 10, 100}, []float32{1}, []float32{-320}},
		{matrix(3, 1, 1, 2, 3), []float32{2}, []float32{1, 1, 1}, []float32{-1, -3, -5}},
		// products and differences have 64 bits
		{matrix(1, 1, near), []float32{near}, []float32{1 + 0x1p-11}, []float32{-0x1p-24}},
		{matrix(1, 2, 1<<24, 1), []float32{1, 1}, []float32{1 << 24}, []float32{-1}},
		{matrix(1, 2, greatest, greatest), []float32{2, -2}, []float32{1}, []float32{0}}, // 1 is lost then
		{matrix(1, 2, greatest, greatest), []float32{1, -1}, []float32{greatest}, []float32{greatest}},
		// they are rounded to 64 bits one after another
		{matrix(1, 3, 0x1p60, 1, -0x1p60), []float32{1, 1, 1}, []float32{0}, []float32{0}},
		{matrix(1, 3, 1, 0x1p60, -0x1p60), []float32{1, 1, 1}, []float32{0}, []float32{0}},
		{matrix(1, 3, 0x1p60, -0x1p60, 1), []float32{1, 1, 1}, []float32{0}, []float32{-1}},
		{matrix(1, 1, number(1)), []float32{number(1)}, []float32{0}, []float32{minusZero}}, // narrowed at last
		{matrix(1, 1, 0), []float32{0}, []float32{minusZero}, []float32{minusZero}},
		{filled(12, 12, 2), repeated[float32](3, 12), repeated[float32](75, 12), repeated[float32](3, 12)},
	}
	for _, c := range cases {
		got, ok := impl.LongResidual(c.a, c.x, c.b)
		wantList(t, "LongResidual "+toldMatrix(c.a), got, ok, c.want...)
	}
}

func TestLongResidualFails(t *testing.T) {
	a := matrix(2, 2, 1, 2, 3, 4)
	for _, v := range notPairs() {
		got, ok := impl.LongResidual(a, v, []float32{1, 2})
		wantNothing(t, fmt.Sprint("LongResidual ", v), got, ok)
		got, ok = impl.LongResidual(a, []float32{1, 2}, v)
		wantNothing(t, fmt.Sprint("LongResidual ", v), got, ok)
	}
	for _, a := range notMatrices() {
		for _, v := range [][]float32{{1}, {1, 2}} {
			got, ok := impl.LongResidual(a, v, v)
			wantNothing(t, "LongResidual "+toldMatrix(a), got, ok)
		}
	}
	for _, c := range []struct {
		a    impl.Matrix
		x, b []float32
	}{
		{matrix(1, 2, 1, 2), []float32{1}, []float32{1}}, {matrix(1, 2, 1, 2), []float32{1}, []float32{1, 2}}, {matrix(2, 1, 1, 2), []float32{1, 2}, []float32{1}},
		{matrix(1, 1, greatest), []float32{-2}, []float32{0}}, {matrix(2, 1, 1, greatest), []float32{-1}, []float32{1, greatest}},
	} {
		got, ok := impl.LongResidual(c.a, c.x, c.b)
		wantNothing(t, "LongResidual "+toldMatrix(c.a), got, ok)
	}
}

func TestSolveRefined(t *testing.T) {
	a, b := matrix(2, 2, 1, 2, 4, 4), []float32{5, 12}
	for rounds := range int64(9) {
		x, norms, ok := impl.SolveRefined(a, b, rounds)
		wantList(t, "SolveRefined", x, ok, 1, 2)
		wantList(t, "norms", norms, ok, repeated[float32](0, int(rounds))...)
	}
	// the norm of what is left is told before it is used
	hilbert, _ := impl.HilbertMatrix(6)
	ones := repeated[float32](1, 6)
	for rounds := range int64(9) {
		x, norms, ok := impl.SolveRefined(hilbert, ones, rounds)
		wantBool(t, "SolveRefined of a Hilbert matrix", ok && len(norms) == int(rounds), true)
		former, _, _ := impl.SolveRefined(hilbert, ones, max(0, rounds-1))
		left, _ := impl.LongResidual(hilbert, former, ones)
		norm, _ := impl.WholeNorm(matrix(1, 6, left...))
		if rounds == 0 {
			f, _ := impl.FactorRows(hilbert)
			solved, _ := impl.FactorSolve(f, ones)
			wantList(t, "no rounds", x, ok, solved...)
			continue
		}
		wantResult(t, "the last norm", norms[rounds-1], norm > 0, norm)
		step := solveWith(t, hilbert, left)
		for i := range former {
			former[i] += step[i]
		}
		wantList(t, "a round more", x, ok, former...)
	}
	x, norms, ok := impl.SolveRefined(middle(repeated[float32](2, 12)...), repeated[float32](minusZero, 12), 1)
	wantList(t, "SolveRefined of 12 zeros", x, ok, repeated[float32](0, 12)...)
	wantList(t, "norms of zeros", norms, ok, 0)
	x, _, ok = impl.SolveRefined(matrix(1, 1, 2), []float32{minusZero}, 0)
	wantList(t, "no round for -0", x, ok, minusZero)
}

func solveWith(t *testing.T, a impl.Matrix, b []float32) []float32 {
	t.Helper()
	f, ok := impl.FactorRows(a)
	x, ok2 := impl.FactorSolve(f, b)
	wantBool(t, "FactorSolve of FactorRows", ok && ok2, true)
	return x
}

func TestSolveRefinedFails(t *testing.T) {
	a := matrix(2, 2, 1, 2, 4, 4)
	for _, rounds := range []int64{-1, 9, math.MaxInt64, math.MinInt64, 1 << 32, 1<<32 + 1} {
		x, norms, ok := impl.SolveRefined(a, []float32{5, 12}, rounds)
		wantNothing(t, "SolveRefined", x, ok)
		wantNothing(t, "SolveRefined", norms, ok)
	}
	for _, b := range notPairs() {
		for _, rounds := range []int64{0, 1} {
			x, norms, ok := impl.SolveRefined(a, b, rounds)
			wantNothing(t, "SolveRefined", x, ok)
			wantNothing(t, "SolveRefined", norms, ok)
		}
	}
	cases := []struct {
		a      impl.Matrix
		b      []float32
		rounds int64
	}{
		{matrix(1, 1, 0.5), []float32{greatest}, 0},
		// it is solved, but the square of what is left is not finite
		{matrix(1, 1, 3), []float32{1e38}, 1}, {matrix(1, 1, 3), []float32{1e38}, 8},
	}
	// squares that nearly have no factor: what is left cannot be solved, or what is added to
	// what was solved is not finite
	for _, c := range []struct {
		a impl.Matrix
		b []float32
	}{
		{matrix(3, 3, -0x1.8p-49, 0x1p-50, -0x1p-49, -0x1p-50, 0, -0x1p-50, -9586981*0x1p-73, 11184811*0x1p-75, -13581556*0x1p-74), []float32{-0x1p41, -0x1p50, 0x1p42}},
		{matrix(3, 3, -0x1.8p-49, 0, 0x1p-48, -0x1.8p-49, -0x1p-49, -0x1p-49, -0x1.6db6dcp-50, -0x1.24924ap-52, 0x1.0c30c4p-50), []float32{-0x1p54, 0, 0x1p52}},
	} {
		_, _, ok := impl.SolveRefined(c.a, c.b, 0)
		wantBool(t, "SolveRefined without rounds", ok, true)
		x, norms, ok := impl.SolveRefined(c.a, c.b, 1)
		wantNothing(t, "SolveRefined "+toldMatrix(c.a), x, ok)
		wantNothing(t, "SolveRefined "+toldMatrix(c.a), norms, ok)
	}
	x, norms, ok := impl.SolveRefined(matrix(1, 1, 3), []float32{1e38}, 0)
	wantList(t, "SolveRefined without rounds", x, ok && len(norms) == 0, number(0x7dc89e21))
	for _, c := range cases {
		x, norms, ok := impl.SolveRefined(c.a, c.b, c.rounds)
		wantNothing(t, "SolveRefined "+toldMatrix(c.a), x, ok)
		wantNothing(t, "SolveRefined "+toldMatrix(c.a), norms, ok)
	}
}

func TestFactorBoth(t *testing.T) {
	ramp := matrix(3, 3, 1, 2, 3, 4, 5, 6, 7, 8, 10)
	cases := []struct {
		a              impl.Matrix
		near           float32
		square         impl.Matrix
		order, columns []int64
		count          int64
	}{
		{matrix(2, 2, 1, 2, 2, 4), 0.5, matrix(2, 2, 4, 2, 0.5, 0), []int64{1, 0}, []int64{1, 0}, 1},
		// the first one of several, row by row
		{filled(2, 2, 1), 0, matrix(2, 2, 1, 1, 1, 0), []int64{0, 1}, []int64{0, 1}, 1},
		{matrix(2, 2, 1, -3, 3, 3), 0, matrix(2, 2, -3, 1, -1, 4), []int64{0, 1}, []int64{1, 0}, 2},
		{matrix(2, 2, 1, 2, -3, 3), 0, matrix(2, 2, -3, 3, number(0xbeaaaaab), 3), []int64{1, 0}, []int64{0, 1}, 2},
		// rows and columns change places as a whole
		{matrix(3, 3, 8, 4, 2, 4, 3, 4, 2, 1, 7.5), 0, matrix(3, 3, 8, 2, 4, 0.25, 7, 0, 0.5, number(0x3edb6db7), 1), []int64{0, 2, 1}, []int64{0, 2, 1}, 3},
		// near can be reached exactly
		{matrix(2, 2, 1, 2, 2, 4), 4, matrix(2, 2, 1, 2, 2, 4), []int64{0, 1}, []int64{0, 1}, 0},
		{matrix(2, 2, 1, 2, 2, 4), number(0x407fffff), matrix(2, 2, 4, 2, 0.5, 0), []int64{1, 0}, []int64{1, 0}, 1},
		{middle(3, 1, 2), 2, middle(3, 1, 2), []int64{0, 1, 2}, []int64{0, 1, 2}, 1},
		{middle(3, 1, 2), 1, middle(3, 2, 1), []int64{0, 2, 1}, []int64{0, 2, 1}, 2},
		{middle(3, 1, 2), number(0x3f7fffff), middle(3, 2, 1), []int64{0, 2, 1}, []int64{0, 2, 1}, 3},
		{ramp, greatest, ramp, []int64{0, 1, 2}, []int64{0, 1, 2}, 0},
		{matrix(1, 1, number(0x80000001)), 0, matrix(1, 1, number(0x80000001)), []int64{0}, []int64{0}, 1},
		{matrix(1, 1, number(1)), number(1), matrix(1, 1, number(1)), []int64{0}, []int64{0}, 0},
		{matrix(2, 2, 0, minusZero, 0, 0), 0, matrix(2, 2, 0, minusZero, 0, 0), []int64{0, 1}, []int64{0, 1}, 0},
		{matrix(1, 1, minusZero), minusZero, matrix(1, 1, minusZero), []int64{0}, []int64{0}, 0},
		{filled(12, 12, -2), 0, matrix(12, 12, append(repeated[float32](-2, 12), rowsWith(11, 1, 11, 0)...)...), []int64{0, 1, 2, 3, 4, 5, 6, 7, 8, 9, 10, 11}, []int64{0, 1, 2, 3, 4, 5, 6, 7, 8, 9, 10, 11}, 1},
	}
	for i, c := range cases {
		f, columns, count, ok := impl.FactorBoth(c.a, c.near)
		what := fmt.Sprint("FactorBoth ", i, toldMatrix(c.a))
		wantFactor(t, what, f, ok, factor(c.square, c.order...))
		wantOrder(t, what, columns, count, ok, c.columns, c.count)
	}
}

// rowsWith returns rows that begin with first, and have others behind it.
func rowsWith(rows int, first float32, count int, other float32) []float32 {
	var list []float32
	for range rows {
		list = append(append(list, first), repeated(other, count)...)
	}
	return list
}

func TestFactorBothFails(t *testing.T) {
	wantNone := func(a impl.Matrix, near float32) {
		t.Helper()
		f, columns, count, ok := impl.FactorBoth(a, near)
		wantNoFactor(t, "FactorBoth "+toldMatrix(a), f, ok)
		wantNothing(t, "FactorBoth "+toldMatrix(a), columns, ok)
		wantBool(t, "a count of pivots", count != 0, false)
	}
	for _, a := range notSquares() {
		wantNone(a, 0)
		wantNone(a, 1e30)
	}
	for _, near := range append(notFinite(), -1, number(0x80000001), -greatest) {
		wantNone(matrix(2, 2, 1, 2, 3, 4), near)
		wantNone(matrix(1, 1, 0), near)
	}
	wantNone(matrix(2, 2, greatest, greatest, -greatest, greatest), 0)
	wantNone(matrix(3, 3, greatest, greatest, 0, -greatest, greatest, 0, 0, 0, 1), 0)
}
