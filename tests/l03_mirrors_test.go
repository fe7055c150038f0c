package tests

import (
	"fmt"
	"testing"

	"loop.example/g01327/impl"
)

func TestMirrorFactor(t *testing.T) {
	cases := []struct{ a, q, r impl.Matrix }{
		{matrix(2, 1, 3, 4), matrix(2, 1, number(0x3f19999a), number(0x3f4ccccd)), matrix(1, 1, 5)},
		{matrix(1, 1, -7), matrix(1, 1, -1), matrix(1, 1, 7)},
		{matrix(2, 2, 2, 6, 0, -5), matrix(2, 2, 1, 0, 0, -1), matrix(2, 2, 2, 6, 0, 5)},
		{matrix(3, 2, 0, 1, 0, 2, -4, 8), matrix(3, 2, 0, number(0x3ee4f92e), 0, number(0x3f64f92e), -1, 0), matrix(2, 2, 4, -8, 0, number(0x400f1bbd))},
		// zeros: r has +0 below its middle, and a sum is never -0
		{matrix(3, 2, -1, 0, minusZero, -3, 0, minusZero), matrix(3, 2, -1, 0, minusZero, -1, 0, minusZero), matrix(2, 2, 1, 0, 0, 3)},
		{middle(repeated[float32](3, 12)...), middle(repeated[float32](1, 12)...), middle(repeated[float32](3, 12)...)},
		{filled(12, 1, 0.5), filled(12, 1, number(0x3e93cd3a)), matrix(1, 1, number(0x3fddb3d7))},
	}
	for _, c := range cases {
		q, r, ok := impl.MirrorFactor(c.a)
		wantMatrix(t, "q of MirrorFactor "+toldMatrix(c.a), q, ok, c.q)
		wantMatrix(t, "r of MirrorFactor "+toldMatrix(c.a), r, ok, c.r)
	}
}

// notMirrors are matrices that MirrorFactor does not take, and such that depend on one another.
func notMirrors() []impl.Matrix {
	return append(notMatrices(), matrix(1, 2, 1, 2), filled(11, 12, 1), matrix(1, 12, repeated[float32](1, 12)...),
		matrix(1, 1, 0), matrix(2, 1, 0, minusZero), matrix(2, 2, 1, 2, 0, 0), matrix(2, 2, 0, 1, 0, 2), matrix(3, 2, 2, -4, 0, 0, 0, 0), matrix(3, 3, 1, 0, 1, 0, 1, 1, 0, 0, 0), filled(12, 12, 0),
		// the squares are too small, or not finite
		matrix(2, 1, 1e-23, 1e-23), matrix(2, 1, 2e19, 1), matrix(2, 1, 1.5e19, 1.5e19), matrix(2, 2, 1, 1, 0, 2e19))
}

func TestMirrorFactorFails(t *testing.T) {
	for _, a := range notMirrors() {
		q, r, ok := impl.MirrorFactor(a)
		wantNoMatrix(t, "q of MirrorFactor "+toldMatrix(a), q, ok)
		wantNoMatrix(t, "r of MirrorFactor "+toldMatrix(a), r, ok)
		for _, b := range [][]float32{{1}, {1, 2}, repeated[float32](1, 3), repeated[float32](1, 11), repeated[float32](1, 12)} {
			x, ok := impl.LeastSquares(a, b)
			wantNothing(t, "LeastSquares "+toldMatrix(a), x, ok)
			x, ok = impl.WeighedSquares(a, b, repeated[float32](1, len(b)))
			wantNothing(t, "WeighedSquares "+toldMatrix(a), x, ok)
		}
	}
}

func TestMirrorRank(t *testing.T) {
	cases := []struct {
		a     impl.Matrix
		near  float32
		order []int64
		count int64
	}{
		{matrix(2, 2, 1, 2, 0, 0), 0.01, []int64{1, 0}, 1}, {middle(1, 3, 2), 0, []int64{1, 2, 0}, 3},
		// near can be reached exactly
		{middle(1, 3, 2), 1, []int64{1, 2, 0}, 2}, {middle(1, 3, 2), 2, []int64{1, 0, 2}, 1}, {middle(1, 3, 2), 3, []int64{0, 1, 2}, 0}, {middle(1, 3, 2), number(0x403fffff), []int64{1, 0, 2}, 1},
		{matrix(2, 1, 3, 4), 5, []int64{0}, 0}, {matrix(2, 1, 3, 4), number(0x409fffff), []int64{0}, 1},
		// the first one of several
		{middle(2, -2, 2), 0, []int64{0, 1, 2}, 3}, {matrix(2, 3, 1, 2, 0, 0, 0, 2), 0, []int64{1, 2, 0}, 2}, {matrix(2, 3, 0, 3, 4, 5, 4, 3), 0.5, []int64{0, 2, 1}, 2},
		// matrices with fewer rows than columns
		{matrix(1, 3, 1, -5, 2), 0, []int64{1, 0, 2}, 1}, {matrix(1, 12, repeated[float32](1, 12)...), 0, []int64{0, 1, 2, 3, 4, 5, 6, 7, 8, 9, 10, 11}, 1},
		// columns that depend on one another
		{matrix(3, 3, 1, 0, 1, 0, 1, 1, 0, 0, 0), 0.001, []int64{2, 1, 0}, 2}, {filled(12, 12, 1), 0.001, []int64{0, 1, 2, 3, 4, 5, 6, 7, 8, 9, 10, 11}, 1},
		// zeros, and squares that are too small
		{filled(2, 2, 0), 0, []int64{0, 1}, 0}, {filled(2, 2, minusZero), minusZero, []int64{0, 1}, 0}, {matrix(1, 2, 1e-23, 1e-22), 0, []int64{1, 0}, 1},
		{matrix(1, 1, 1.5e19), 1e19, []int64{0}, 1}, {matrix(1, 1, 1), greatest, []int64{0}, 0},
		{middle(1, 2, 3, 4, 5, 6, 7, 8, 9, 10, 11, 12), 0, []int64{11, 10, 9, 8, 7, 6, 5, 4, 3, 2, 1, 0}, 12},
	}
	for _, c := range cases {
		order, count, ok := impl.MirrorRank(c.a, c.near)
		wantOrder(t, fmt.Sprint("MirrorRank ", toldMatrix(c.a), c.near), order, count, ok, c.order, c.count)
	}
}

func TestMirrorRankFails(t *testing.T) {
	wantNone := func(a impl.Matrix, near float32) {
		t.Helper()
		order, count, ok := impl.MirrorRank(a, near)
		wantNothing(t, "MirrorRank "+toldMatrix(a), order, ok)
		wantBool(t, "a count of places", count != 0, false)
	}
	for _, a := range notMatrices() {
		wantNone(a, 1)
	}
	for _, near := range append(notFinite(), -1, number(0x80000001), -greatest) {
		wantNone(matrix(2, 2, 1, 2, 3, 4), near)
		wantNone(filled(2, 2, 0), near)
	}
	for _, near := range []float32{0, 1, greatest} {
		wantNone(matrix(1, 2, 2e19, 1), near)
		wantNone(matrix(1, 2, 1, -2e19), near)
		wantNone(matrix(2, 1, 1.5e19, 1.5e19), near)
	}
}

func TestLeastSquares(t *testing.T) {
	cases := []struct {
		a    impl.Matrix
		b, x []float32
	}{
		{matrix(2, 2, 2, 1, 0, 4), []float32{4, 8}, []float32{1, 2}}, {matrix(3, 2, 1, 0, 0, 2, 0, 0), []float32{5, 6, 7}, []float32{5, 3}},
		{matrix(1, 1, -4), []float32{2}, []float32{-0.5}}, {matrix(2, 1, -4, 0), []float32{2, 9}, []float32{-0.5}},
		{matrix(4, 1, 1, 1, 1, 1), []float32{1, 2, 3, 6}, []float32{3}}, {matrix(4, 2, 1, 1, 1, -1, 1, 1, 1, -1), []float32{1, 2, 3, 8}, []float32{3.5, -1.5}},
		{matrix(1, 1, 1), []float32{minusZero}, []float32{0}}, // a sum of products
		{middle(repeated[float32](2, 12)...), repeated[float32](6, 12), repeated[float32](3, 12)},
	}
	for _, c := range cases {
		got, ok := impl.LeastSquares(c.a, c.b)
		wantList(t, "LeastSquares "+toldMatrix(c.a), got, ok, c.x...)
		got, ok = impl.WeighedSquares(c.a, c.b, repeated[float32](1, len(c.b)))
		wantList(t, "WeighedSquares with 1 "+toldMatrix(c.a), got, ok, c.x...)
		got, ok = impl.WeighedSquares(c.a, c.b, repeated[float32](4, len(c.b)))
		wantList(t, "WeighedSquares with 4 "+toldMatrix(c.a), got, ok, c.x...)
	}
	x, ok := impl.LeastSquares(matrix(2, 1, 1, 1), []float32{1, 3})
	wantBool(t, "the example", ok && len(x) == 1 && x[0] > 1.9999 && x[0] < 2.0001, true)
}

func TestLeastSquaresFails(t *testing.T) {
	a := matrix(2, 1, 1, 2)
	for _, b := range notPairs() {
		got, ok := impl.LeastSquares(a, b)
		wantNothing(t, "LeastSquares", got, ok)
		got, ok = impl.WeighedSquares(a, b, []float32{1, 1})
		wantNothing(t, "WeighedSquares", got, ok)
		got, ok = impl.WeighedSquares(a, []float32{1, 1}, b)
		wantNothing(t, "WeighedSquares", got, ok)
	}
	// the sum, or what is solved, is not finite
	for _, c := range []struct {
		a impl.Matrix
		b []float32
	}{{filled(4, 1, 1), repeated(greatest, 4)}, {matrix(1, 1, 1e-10), []float32{1e30}}, {matrix(2, 2, 1, 1e19, 0, 1), []float32{1, 1e20}}} {
		got, ok := impl.LeastSquares(c.a, c.b)
		wantNothing(t, "LeastSquares "+toldMatrix(c.a), got, ok)
	}
}

func TestWeighedSquares(t *testing.T) {
	cases := []struct {
		a             impl.Matrix
		b, weights, x []float32
	}{
		{matrix(2, 1, 1, 1), []float32{1, 3}, []float32{1, 0}, []float32{1}}, {matrix(2, 1, 1, 1), []float32{1, 3}, []float32{minusZero, 4}, []float32{3}},
		// the weights 16, 1, 4 and 4 make the column 4 1 2 2 with the length 5 of the column of 1
		{matrix(4, 1, 1, 1, 1, 1), []float32{5, 10, 0, 5}, []float32{16, 1, 4, 4}, []float32{number(0x408ccccd)}},
		{matrix(3, 2, 1, 0, 0, 2, 5, 5), []float32{5, 6, 7}, []float32{4, 9, 0}, []float32{5, 3}},
		{matrix(2, 1, 1, 100), []float32{7, 1}, []float32{1e-20, 0}, []float32{7}},
		{matrix(1, 1, 2), []float32{6}, []float32{0x1p124}, []float32{3}},
	}
	for _, c := range cases {
		got, ok := impl.WeighedSquares(c.a, c.b, c.weights)
		wantList(t, "WeighedSquares "+toldMatrix(c.a), got, ok, c.x...)
	}
	for _, c := range cases[:3] {
		for _, weights := range [][]float32{repeated[float32](0, len(c.b)), repeated[float32](minusZero, len(c.b)), append(repeated[float32](1, len(c.b)-1), -1), append(repeated[float32](1, len(c.b)-1), number(0x80000001)), repeated[float32](1, len(c.b)+1), repeated[float32](1, len(c.b)-1)} {
			got, ok := impl.WeighedSquares(c.a, c.b, weights)
			wantNothing(t, fmt.Sprint("WeighedSquares ", weights), got, ok)
		}
	}
	// a number of the matrix, or of b, is not finite then
	got, ok := impl.WeighedSquares(matrix(1, 1, 1e30), []float32{1}, []float32{1e30})
	wantNothing(t, "WeighedSquares", got, ok)
	got, ok = impl.WeighedSquares(matrix(1, 1, 1), []float32{greatest}, []float32{4})
	wantNothing(t, "WeighedSquares", got, ok)
}

func TestAddRow(t *testing.T) {
	cases := []struct {
		upper impl.Matrix
		row   []float32
		want  impl.Matrix
	}{
		{matrix(1, 1, 3), []float32{4}, matrix(1, 1, 5)}, {matrix(1, 1, -5), []float32{-12}, matrix(1, 1, 13)},
		// where nothing is added, the middle is not less than 0 then
		{matrix(2, 2, -2, 3, 9, -4), []float32{0, 0}, matrix(2, 2, 2, -3, 0, 4)}, {matrix(1, 1, -2), []float32{minusZero}, matrix(1, 1, 2)},
		// the middle becomes what is added
		{filled(2, 2, 0), []float32{3, 4}, matrix(2, 2, 3, 4, 0, 0)}, {filled(2, 2, 0), []float32{0, -4}, matrix(2, 2, 0, 0, 0, 4)}, {filled(2, 2, 0), []float32{-2, 4}, matrix(2, 2, 2, -4, 0, 0)},
		// nothing happens to a row where both are zeros, and the next ones go on
		{matrix(2, 2, minusZero, minusZero, 7, 3), []float32{0, 4}, matrix(2, 2, minusZero, minusZero, 0, 5)}, {matrix(1, 1, minusZero), []float32{minusZero}, matrix(1, 1, minusZero)},
		{matrix(3, 3, 0, 1, 2, 8, 4, 5, 8, 8, 12), []float32{0, 3, 10}, matrix(3, 3, 0, 1, 2, 0, 5, 10, 0, 0, 13)},
		{matrix(1, 1, 1e-23), []float32{1e-23}, matrix(1, 1, 1e-23)}, // h is 0
		// numbers below the middle are not taken
		{matrix(2, 2, 3, 1, -greatest, 2), []float32{4, 2}, matrix(2, 2, 5, number(0x400ccccd), 0, number(0x400288ef))},
		{matrix(2, 2, 1, 2, 0, 1), []float32{1, 2}, matrix(2, 2, number(0x3fb504f3), number(0x403504f3), 0, 1)},
		// the sum of the squares is not finite, and both are divided by it
		{matrix(1, 1, 2e19), []float32{1}, matrix(1, 1, 0)}, {matrix(2, 2, 1, -2, 0, 3), []float32{-2e19, 5}, matrix(2, 2, 0, minusZero, 0, 3)},
		{middle(repeated[float32](3, 12)...), append([]float32{4}, repeated[float32](0, 11)...), middle(append([]float32{5}, repeated[float32](3, 11)...)...)},
	}
	for _, c := range cases {
		got, ok := impl.AddRow(c.upper, c.row)
		wantMatrix(t, "AddRow "+toldMatrix(c.upper), got, ok, c.want)
	}
}

func TestAddRowFails(t *testing.T) {
	for _, row := range notPairs() {
		got, ok := impl.AddRow(matrix(2, 2, 1, 2, 0, 1), row)
		wantNoMatrix(t, "AddRow", got, ok)
	}
	for _, a := range notSquares() {
		for _, row := range [][]float32{{1}, {1, 2}, repeated[float32](1, 11), repeated[float32](1, 12)} {
			got, ok := impl.AddRow(a, row)
			wantNoMatrix(t, "AddRow "+toldMatrix(a), got, ok)
		}
	}
	// a number of the square, or only of the row, is not finite on the way
	for _, c := range []struct {
		upper impl.Matrix
		row   []float32
	}{
		{matrix(2, 2, 1, greatest, 0, 1), []float32{1, greatest}},
		{matrix(2, 2, 1, -greatest, 0, 1), []float32{1, greatest}},
	} {
		got, ok := impl.AddRow(c.upper, c.row)
		wantNoMatrix(t, "AddRow "+toldMatrix(c.upper), got, ok)
	}
}

func TestUpperSolve(t *testing.T) {
	big := float32(1 << 24)
	near := float32(1 + 0x1p-12)
	cases := []struct {
		upper impl.Matrix
		b, x  []float32
	}{
		// numbers below the middle are not taken
		{matrix(2, 2, 2, 1, 9, 4), []float32{4, 8}, []float32{1, 2}},
		{matrix(3, 3, -2, 1, 4, greatest, 4, 8, -greatest, minusZero, 0.5), []float32{2, 4, 1}, []float32{1.5, -3, 2}},
		{matrix(1, 1, -4), []float32{0}, []float32{minusZero}}, {matrix(1, 1, number(0x80000001)), []float32{number(3)}, []float32{-3}},
		// products are taken away one after another, and each of them is rounded
		{matrix(3, 3, 1, 1, 1, 0, 1, 0, 0, 0, 1), []float32{big, -1, -1}, []float32{big, -1, -1}},
		{matrix(3, 3, 1, 1, 1, 0, 1, 0, 0, 0, 1), []float32{1, big, -big}, []float32{1, big, -big}},
		{matrix(2, 2, 1, near, 0, 1), []float32{1 + 0x1p-11, near}, []float32{0, near}},
		{middle(repeated[float32](-2, 12)...), repeated[float32](8, 12), repeated[float32](-4, 12)},
	}
	for _, c := range cases {
		got, ok := impl.UpperSolve(c.upper, c.b)
		wantList(t, "UpperSolve "+toldMatrix(c.upper), got, ok, c.x...)
	}
}

func TestUpperSolveFails(t *testing.T) {
	for _, b := range notPairs() {
		got, ok := impl.UpperSolve(matrix(2, 2, 2, 1, 0, 4), b)
		wantNothing(t, "UpperSolve", got, ok)
	}
	for _, a := range append(notSquares(), matrix(1, 1, 0), matrix(1, 1, minusZero), middle(1, 0), middle(0, 1), middle(1, minusZero), middle(1, 1, 1, 1, 1, 1, 1, 1, 1, 1, 1, 0)) {
		for _, b := range [][]float32{{1}, {1, 2}, {0, 0}, repeated[float32](1, 12)} {
			got, ok := impl.UpperSolve(a, b)
			wantNothing(t, "UpperSolve "+toldMatrix(a), got, ok)
		}
	}
	for _, a := range []impl.Matrix{middle(0.5, 1), middle(1, number(1)), matrix(2, 2, greatest, 2, 0, 1)} {
		got, ok := impl.UpperSolve(a, []float32{greatest, greatest})
		wantNothing(t, "UpperSolve "+toldMatrix(a), got, ok)
	}
}
