package tests

import (
	"testing"

	"loop.example/g01327/impl"
)

func TestFactorRows(t *testing.T) {
	cases := []struct {
		a    impl.Matrix
		want impl.Factor
	}{
		{matrix(2, 2, 1, 2, 3, 4), factor(matrix(2, 2, 3, 4, number(0x3eaaaaab), number(0x3f2aaaaa)), 1, 0)}, // the example
		{matrix(2, 2, 1, 2, 4, 4), factor(matrix(2, 2, 4, 4, 0.25, 1), 1, 0)},
		// of pivots that are equal, also but for their signs, the first one is taken
		{matrix(3, 3, 2, 1, 1, -2, 1, 0, 2, 0, 3), factor(matrix(3, 3, 2, 1, 1, -1, 2, 1, 1, -0.5, 2.5), 0, 1, 2)},
		{matrix(3, 3, 1, 0, 0, -2, 0, 4, 2, 2, 0), factor(matrix(3, 3, -2, 0, 4, -1, 2, 4, -0.5, 0, 2), 1, 2, 0)},
		// rows change places as a whole, with what is before the middle
		{matrix(3, 3, 4, 0, 0, 2, 1, 0, 1, 2, 1), factor(matrix(3, 3, 4, 0, 0, 0.25, 2, 1, 0.5, 0.5, -0.5), 0, 2, 1)},
		{matrix(3, 3, 0, 0, 3, 0, 2, 0, 1, 0, 0), factor(middle(1, 2, 3), 2, 1, 0)},
		{matrix(1, 1, -5), factor(matrix(1, 1, -5), 0)},
		{matrix(1, 1, number(1)), factor(matrix(1, 1, number(1)), 0)},
		{matrix(1, 1, -greatest), factor(matrix(1, 1, -greatest), 0)},
		// a zero in the column of the pivot changes its row, too: -0 less -0 is +0
		{matrix(3, 3, -2, 1, 1, 0, 5, minusZero, 0, 0, 7), factor(matrix(3, 3, -2, 1, 1, minusZero, 5, 0, minusZero, 0, 7), 0, 1, 2)},
		// great numbers whose difference is finite
		{matrix(2, 2, greatest, greatest, greatest, 1), factor(matrix(2, 2, greatest, greatest, 1, -greatest), 0, 1)},
		{middle(repeated[float32](-3, 12)...), factor(matrix(12, 12, middleWith(12, -3, minusZero)...), 0, 1, 2, 3, 4, 5, 6, 7, 8, 9, 10, 11)},
	}
	for _, c := range cases {
		got, ok := impl.FactorRows(c.a)
		wantFactor(t, "FactorRows "+toldMatrix(c.a), got, ok, c.want)
		wantBool(t, "ValidFactor "+toldFactor(got), impl.ValidFactor(got), true)
	}
}

// middleWith returns the numbers of a square of n rows with x in its middle, below below it, and
// +0 above it.
func middleWith(n int, x, below float32) []float32 {
	list := make([]float32, n*n)
	for i := range n {
		list[i*n+i] = x
		for k := range i {
			list[i*n+k] = below
		}
	}
	return list
}

func TestFactorRowsFails(t *testing.T) {
	near := float32(1 - 0x1p-13)
	singular := []impl.Matrix{
		matrix(1, 1, 0), matrix(1, 1, minusZero), matrix(2, 2, 0, 1, 0, 2), matrix(2, 2, minusZero, 1, 0, 2), matrix(2, 2, 1, 2, 1, 2), filled(12, 12, 0), filled(12, 12, 1),
		matrix(3, 3, 1, 0, 1, 2, 0, 1, 3, 0, 5), matrix(3, 3, 1, 2, 3, 4, 5, 6, 0, 0, 0), matrix(3, 3, 1, 2, 5, 0, 1, 3, 0, 1, 3),
		// the product is rounded before it is taken away: 0 is left
		matrix(2, 2, 1, near, near, 1-0x1p-12),
	}
	huge := []impl.Matrix{
		matrix(2, 2, greatest, greatest, -greatest, greatest), matrix(2, 2, 1, greatest, -1, greatest),
		matrix(3, 3, 1, 0, greatest, 1, 1, -greatest, 0, 0, 1),
		// the number that is not finite is not in the middle, and is no pivot
		matrix(3, 3, 1, 0, greatest, 0, 1, 0, -1, 0, greatest),
	}
	for _, a := range append(append(notSquares(), singular...), huge...) {
		got, ok := impl.FactorRows(a)
		wantNoFactor(t, "FactorRows "+toldMatrix(a), got, ok)
		x, norms, ok := impl.SolveRefined(a, repeated[float32](1, max(1, int(min(a.Rows, 12)))), 0)
		wantNothing(t, "SolveRefined "+toldMatrix(a), x, ok)
		wantNothing(t, "SolveRefined "+toldMatrix(a), norms, ok)
		condition, ok := impl.ConditionOf(a)
		wantNoResult(t, "ConditionOf "+toldMatrix(a), condition, ok)
	}
}

func TestValidFactor(t *testing.T) {
	valid := []impl.Factor{
		factor(matrix(1, 1, 1), 0), factor(matrix(1, 1, number(0x80000001)), 0), factor(matrix(2, 2, 1, 0, 0, -1), 1, 0), factor(matrix(2, 2, greatest, 9, 9, 1), 0, 1),
		factor(filled(12, 12, 1), 11, 10, 9, 8, 7, 6, 5, 4, 3, 2, 1, 0),
	}
	for _, f := range valid {
		wantBool(t, "ValidFactor "+toldFactor(f), impl.ValidFactor(f), true)
	}
	for _, f := range notFactors() {
		wantBool(t, "ValidFactor "+toldFactor(f), impl.ValidFactor(f), false)
	}
}

func TestSameFactor(t *testing.T) {
	unit := matrix(2, 2, 1, 0, 0, 1)
	list := append(notFactors(), factor(unit, 0, 1), factor(unit, 1, 0), factor(matrix(2, 2, 1, minusZero, 0, 1), 0, 1), factor(matrix(2, 2, 1, 0, 0, 2), 0, 1), factor(matrix(1, 4, 1, 0, 0, 1), 0, 1), factor(unit, 0, 1, 2))
	for _, a := range list {
		for _, b := range list {
			wantBool(t, "SameFactor "+toldFactor(a)+" and "+toldFactor(b), impl.SameFactor(a, b), toldFactor(a) == toldFactor(b))
		}
	}
	wantBool(t, "not-a-numbers", impl.SameFactor(factor(matrix(1, 1, number(0x7fc00000)), 3), factor(matrix(1, 1, number(0xff800001)), 3)), true)
	wantBool(t, "nil and empty", impl.SameFactor(factor(impl.Matrix{}), impl.Factor{Order: []int64{}}), true)
}

func TestLowerAndUpper(t *testing.T) {
	cases := []struct {
		f            impl.Factor
		lower, upper impl.Matrix
	}{
		{factor(matrix(2, 2, 4, 4, 0.25, 1), 1, 0), matrix(2, 2, 1, 0, 0.25, 1), matrix(2, 2, 4, 4, 0, 1)},
		{factor(matrix(3, 3, -2, -3, minusZero, minusZero, -4, -5, -6, -7, -8), 2, 0, 1), matrix(3, 3, 1, 0, 0, minusZero, 1, 0, -6, -7, 1), matrix(3, 3, -2, -3, minusZero, 0, -4, -5, 0, 0, -8)},
		{factor(matrix(1, 1, -7), 0), matrix(1, 1, 1), matrix(1, 1, -7)},
		{factor(matrix(12, 12, middleWith(12, -3, -2)...), 0, 1, 2, 3, 4, 5, 6, 7, 8, 9, 10, 11), matrix(12, 12, middleWith(12, 1, -2)...), middle(repeated[float32](-3, 12)...)},
	}
	for _, c := range cases {
		got, ok := impl.LowerOf(c.f)
		wantMatrix(t, "LowerOf", got, ok, c.lower)
		got, ok = impl.UpperOf(c.f)
		wantMatrix(t, "UpperOf", got, ok, c.upper)
	}
}

func TestFactorGrowth(t *testing.T) {
	f := factor(matrix(2, 2, 4, -6, 100, 1), 1, 0) // 100 is not in the upper triangle
	cases := []struct {
		a    impl.Matrix
		f    impl.Factor
		want float32
	}{
		{matrix(2, 2, 1, 2, 4, 4), factor(matrix(2, 2, 4, 4, 0.25, 1), 1, 0), 1},
		{matrix(2, 2, 1, -2, 3, 1), f, 2}, {matrix(2, 2, 1, -12, 3, 1), f, 0.5}, {matrix(2, 2, 0, 0, 0, -9), f, number(0x3f2aaaab)},
		{matrix(1, 1, number(0x80000001)), factor(matrix(1, 1, -1e-7), 0), number(0x7e56bf95)},
		{filled(12, 12, -2), factor(filled(12, 12, -1), 0, 1, 2, 3, 4, 5, 6, 7, 8, 9, 10, 11), 0.5},
	}
	for _, c := range cases {
		got, ok := impl.FactorGrowth(c.a, c.f)
		wantResult(t, "FactorGrowth "+toldMatrix(c.a), got, ok, c.want)
	}
	for _, a := range append(notMatrices(), matrix(2, 2, 0, minusZero, 0, 0), matrix(2, 2, 0, number(1), 0, 0)) {
		got, ok := impl.FactorGrowth(a, f)
		wantNoResult(t, "FactorGrowth "+toldMatrix(a), got, ok)
	}
}

func TestFactorSolve(t *testing.T) {
	f := factor(matrix(2, 2, 4, 4, 0.25, 1), 1, 0)
	three := factor(matrix(3, 3, 2, 1, -1, 3, -4, 5, 0.5, -2, 8), 2, 0, 1)
	cases := []struct {
		f             impl.Factor
		b, x, flipped []float32
	}{
		{f, []float32{5, 12}, []float32{1, 2}, []float32{7, -0.5}},
		{f, []float32{5, 6}, []float32{-2, 3.5}, []float32{1, 1}},
		{three, []float32{30, 2, 8}, []float32{4.59375, 0.0625, 1.25}, []float32{4.9375, 0.84375, -0.234375}},
		{factor(matrix(1, 1, -4), 0), []float32{0}, []float32{minusZero}, []float32{minusZero}},
		{factor(middle(1, 2, 4, 8), 3, 0, 1, 2), []float32{1, 2, 3, 4}, []float32{4, 0.5, 0.5, 0.375}, []float32{1, 0.75, 0.5, 1}},
	}
	for _, c := range cases {
		got, ok := impl.FactorSolve(c.f, c.b)
		wantList(t, "FactorSolve "+toldFactor(c.f), got, ok, c.x...)
		got, ok = impl.FactorSolveFlipped(c.f, c.b)
		wantList(t, "FactorSolveFlipped "+toldFactor(c.f), got, ok, c.flipped...)
	}
}

// Products are taken away one after another, and each of them is rounded.
func TestFactorSolveSteps(t *testing.T) {
	big := float32(1 << 24)
	near := float32(1 + 0x1p-12)
	lower := factor(matrix(3, 3, 1, 0, 0, 0, 1, 0, 1, 1, 1), 0, 1, 2)
	upper := factor(matrix(3, 3, 1, 1, 1, 0, 1, 0, 0, 0, 1), 0, 1, 2)
	got, ok := impl.FactorSolve(lower, []float32{-1, -1, big})
	wantList(t, "FactorSolve with a lower triangle", got, ok, -1, -1, big)
	got, ok = impl.FactorSolve(upper, []float32{big, -1, -1})
	wantList(t, "FactorSolve with an upper triangle", got, ok, big, -1, -1)
	got, ok = impl.FactorSolve(upper, []float32{1, big, -big})
	wantList(t, "FactorSolve, first from the left", got, ok, 1, big, -big)
	got, ok = impl.FactorSolveFlipped(factor(matrix(3, 3, 1, 0, 1, 0, 1, 1, 0, 0, 1), 0, 1, 2), []float32{-1, -1, big})
	wantList(t, "FactorSolveFlipped with an upper triangle", got, ok, -1, -1, big)
	got, ok = impl.FactorSolveFlipped(factor(matrix(3, 3, 1, 0, 0, 1, 1, 0, 1, 0, 1), 0, 1, 2), []float32{big, -1, -1})
	wantList(t, "FactorSolveFlipped with a lower triangle", got, ok, big, -1, -1)
	two := factor(matrix(2, 2, 1, near, near, 1), 0, 1)
	got, ok = impl.FactorSolve(factor(matrix(2, 2, 1, 0, near, 1), 0, 1), []float32{near, 1 + 0x1p-11})
	wantList(t, "a product in the lower triangle is rounded", got, ok, near, 0)
	got, ok = impl.FactorSolve(factor(matrix(2, 2, 1, near, 0, 1), 0, 1), []float32{1 + 0x1p-11, near})
	wantList(t, "a product in the upper triangle is rounded", got, ok, 0, near)
	got, ok = impl.FactorSolveFlipped(two, []float32{near, 1 + 0x1p-11})
	wantList(t, "a product in a flipped triangle is rounded", got, ok, near, 0)
}

func TestFactorFunctionsFail(t *testing.T) {
	for _, f := range notFactors() {
		what := toldFactor(f)
		got, ok := impl.LowerOf(f)
		wantNoMatrix(t, "LowerOf "+what, got, ok)
		got, ok = impl.UpperOf(f)
		wantNoMatrix(t, "UpperOf "+what, got, ok)
		got, ok = impl.FactorInverse(f)
		wantNoMatrix(t, "FactorInverse "+what, got, ok)
		x, ok := impl.FactorDet(f)
		wantNoResult(t, "FactorDet "+what, x, ok)
		x, ok = impl.FactorGrowth(matrix(2, 2, 1, 2, 3, 4), f)
		wantNoResult(t, "FactorGrowth "+what, x, ok)
		for _, b := range [][]float32{{1}, {1, 2}, {1, 2, 3}, nil} {
			v, ok := impl.FactorSolve(f, b)
			wantNothing(t, "FactorSolve "+what, v, ok)
			v, ok = impl.FactorSolveFlipped(f, b)
			wantNothing(t, "FactorSolveFlipped "+what, v, ok)
		}
	}
	f := factor(matrix(2, 2, 4, 4, 0.25, 1), 1, 0)
	for _, b := range notPairs() {
		v, ok := impl.FactorSolve(f, b)
		wantNothing(t, "FactorSolve", v, ok)
		v, ok = impl.FactorSolveFlipped(f, b)
		wantNothing(t, "FactorSolveFlipped", v, ok)
	}
}

func TestFactorSolveNotFinite(t *testing.T) {
	type solve struct {
		f impl.Factor
		b []float32
	}
	both := []solve{{factor(matrix(1, 1, 0.5), 0), []float32{greatest}}, {factor(matrix(1, 1, number(1)), 0), []float32{1}}}
	// an infinity that is divided by the greatest number stays
	plain := []solve{
		{factor(matrix(2, 2, 1, 0, 2, 1), 0, 1), []float32{greatest, 0}}, {factor(matrix(2, 2, 1, 2, 0, 1), 0, 1), []float32{0, greatest}},
		{factor(matrix(2, 2, 1, 0, 2, greatest), 0, 1), []float32{greatest, 0}}, {factor(matrix(2, 2, greatest, 2, 0, 1), 0, 1), []float32{0, greatest}},
	}
	flipped := []solve{
		{factor(matrix(2, 2, 1, 2, 0, 1), 0, 1), []float32{greatest, 0}}, {factor(matrix(2, 2, 1, 0, 2, 1), 0, 1), []float32{0, greatest}},
		{factor(matrix(2, 2, 1, 2, 0, greatest), 0, 1), []float32{greatest, 0}}, {factor(matrix(2, 2, 1, 0, greatest, 1), 0, 1), []float32{0, 2}},
	}
	for _, c := range append(plain, both...) {
		v, ok := impl.FactorSolve(c.f, c.b)
		wantNothing(t, "FactorSolve "+toldFactor(c.f), v, ok)
	}
	for _, c := range append(flipped, both...) {
		v, ok := impl.FactorSolveFlipped(c.f, c.b)
		wantNothing(t, "FactorSolveFlipped "+toldFactor(c.f), v, ok)
	}
}

func TestFactorDet(t *testing.T) {
	cases := []struct {
		f    impl.Factor
		want float32
	}{
		{factor(matrix(2, 2, 4, 4, 0.25, 1), 1, 0), -4}, {factor(matrix(1, 1, -3), 0), -3}, {factor(middle(2, 3, 5), 1, 2, 0), 30}, {factor(middle(2, 3, 5), 1, 0, 2), -30},
		{factor(middle(1e30, 1e-30, 1e30), 0, 1, 2), float32(1e30) * float32(1e-30) * 1e30},
		{factor(middle(1e-30, 1e-30, 1e30), 0, 1, 2), 0}, {factor(middle(1e-30, 1e-30, 1e30), 0, 2, 1), minusZero},
		{factor(middle(1+0x1p-12, 1+0x1p-12, 1+0x1p-12), 0, 1, 2), number(0x3f801801)},
		{factor(middle(repeated[float32](2, 12)...), 1, 2, 3, 4, 5, 6, 7, 8, 9, 10, 11, 0), -4096},
	}
	for _, c := range cases {
		got, ok := impl.FactorDet(c.f)
		wantResult(t, "FactorDet "+toldFactor(c.f), got, ok, c.want)
	}
	for _, f := range []impl.Factor{factor(middle(greatest, 2), 0, 1), factor(middle(1e30, 1e30, 1e-30), 0, 1, 2), factor(middle(1e30, -1e30, 1e-30), 1, 0, 2)} {
		got, ok := impl.FactorDet(f)
		wantNoResult(t, "FactorDet "+toldFactor(f), got, ok)
	}
}

func TestFactorInverse(t *testing.T) {
	got, ok := impl.FactorInverse(factor(matrix(2, 2, 4, 4, 0.25, 1), 1, 0))
	wantMatrix(t, "FactorInverse", got, ok, matrix(2, 2, -1, 0.5, 1, -0.25))
	got, ok = impl.FactorInverse(factor(middle(2, -4, 8), 2, 0, 1))
	wantMatrix(t, "FactorInverse of three numbers", got, ok, matrix(3, 3, 0, 0, 0.5, -0.25, minusZero, minusZero, 0, 0.125, 0))
	got, ok = impl.FactorInverse(factor(middle(repeated[float32](4, 12)...), 0, 1, 2, 3, 4, 5, 6, 7, 8, 9, 10, 11))
	wantMatrix(t, "FactorInverse of 12", got, ok, middle(repeated[float32](0.25, 12)...))
	for _, f := range []impl.Factor{factor(middle(1, number(1)), 0, 1), factor(matrix(1, 1, number(0x001fffff)), 0), factor(matrix(2, 2, 1, greatest, 0, 0.5), 0, 1)} {
		got, ok := impl.FactorInverse(f)
		wantNoMatrix(t, "FactorInverse "+toldFactor(f), got, ok)
	}
}

func TestConditionOf(t *testing.T) {
	cases := []struct {
		a    impl.Matrix
		want float32
	}{
		{matrix(2, 2, 2, 0, 0, 4), 2}, {matrix(1, 1, -3), 1}, {matrix(2, 2, 1, 2, 4, 4), 12}, {matrix(2, 2, 0, 1, 8, 0), 8}, {middle(repeated[float32](0.5, 12)...), 1},
		// norms are those of columns
		{matrix(2, 2, 1, 3, 0, 1), 16}, {matrix(2, 2, 1, 0, 3, 1), 16}, {matrix(3, 3, 1, 2, 4, 0, 1, 0, 0, 0, 1), 25}, {matrix(3, 3, 1, 0, 0, 2, 1, 0, 4, 0, 1), 49},
	}
	for _, c := range cases {
		got, ok := impl.ConditionOf(c.a)
		wantResult(t, "ConditionOf "+toldMatrix(c.a), got, ok, c.want)
	}
	for _, a := range []impl.Matrix{middle(greatest, 1e-3), matrix(1, 1, number(1)), matrix(2, 2, greatest, 0, greatest, 1)} {
		got, ok := impl.ConditionOf(a)
		wantNoResult(t, "ConditionOf "+toldMatrix(a), got, ok)
	}
}
