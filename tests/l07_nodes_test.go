package tests

import (
	"fmt"
	"math"
	"testing"

	"loop.example/g01327/impl"
)

// steps returns count places with the same distance.
func steps(count int, first, distance float32) []float32 {
	list := make([]float32, count)
	for i := range list {
		list[i] = first + distance*float32(i)
	}
	return list
}

func TestDividedOf(t *testing.T) {
	cases := []struct{ x, y, want []float32 }{
		{[]float32{0, 1, 2}, []float32{1, 3, 7}, []float32{1, 2, 1}}, {[]float32{1, 2, 4, 7}, []float32{3, -1, 5, 0}, numbersOf([]int64{0x40400000, 0xc0800000, 0x40155555, 0xbf0b60b5})}, {[]float32{7, 4, 2, 1}, []float32{0, 5, -1, 3}, numbersOf([]int64{0, 0xbfd55555, 0xbf6eeeee, 0xbf0b60b5})},
		// one node
		{[]float32{5}, []float32{7}, []float32{7}}, {[]float32{0}, []float32{minusZero}, []float32{minusZero}}, {[]float32{greatest}, []float32{greatest}, []float32{greatest}},
		// places near and far: a distance may be as small as it can be, and may be infinite
		{[]float32{number(1), 0}, []float32{0, number(2)}, []float32{0, -2}}, {[]float32{number(1), -number(1)}, []float32{number(2), number(6)}, []float32{number(2), -2}}, {[]float32{-greatest, greatest}, []float32{0, 1}, []float32{0, 0}}, {[]float32{greatest, -greatest}, []float32{0, 1}, []float32{0, minusZero}},
		{steps(32, 0, 1), steps(32, 5, 2), append([]float32{5, 2}, make([]float32, 30)...)}, {steps(32, 31, -1), steps(32, 5, 2), append([]float32{5, -2}, repeated(minusZero, 30)...)},
	}
	for _, c := range cases {
		got, ok := impl.DividedOf(c.x, c.y)
		wantList(t, fmt.Sprint("DividedOf ", c.x, c.y), got, ok, c.want...)
	}
}

// notNodes are lists that are not as many finite numbers as are told.
func notNodes() [][]float32 {
	return append(notVectors(), steps(33, 0, 1), steps(256, 0, 1), append(steps(31, 0, 1), infinite), append(steps(31, 0, 1), number(0x7fc00000)))
}

func TestDividedOfFails(t *testing.T) {
	check := func(x, y []float32) {
		t.Helper()
		got, ok := impl.DividedOf(x, y)
		wantNothing(t, fmt.Sprint("DividedOf ", x, y), got, ok)
	}
	for _, list := range notNodes() {
		check(list, steps(len(list), 0, 1))
		check(steps(len(list), 0, 1), list)
		check(list, list)
	}
	check([]float32{0, 1}, []float32{1})
	check([]float32{0}, []float32{1, 2})
	check(steps(32, 0, 1), steps(31, 0, 1))
	check(steps(32, 0, 1), steps(33, 0, 1))
	// places that are equal, and both zeros are
	for _, x := range [][]float32{{1, 1}, {0, 0}, {0, minusZero}, {minusZero, 0}, {minusZero, minusZero}, {1, 2, 1}, {2, 1, 1}, {1, 1, 2}, {0, 5, minusZero}, {number(1), 0, number(1)}, append(steps(31, 0, 1), 30), append(steps(31, 0, 1), 0), append(steps(31, 0, 1), minusZero)} {
		check(x, make([]float32, len(x)))
		check(x, steps(len(x), 1, 1))
	}
	// a difference, or a quotient, is not finite
	check([]float32{0, 1}, []float32{greatest, -greatest})
	check([]float32{number(1), 0}, []float32{0, 1})
	check([]float32{0, number(1), 1}, []float32{0, 1, 2})
	check([]float32{0, 1, 1 + 0x1p-23}, []float32{0, 1e32, 2e32})
	check([]float32{-greatest, greatest}, []float32{-greatest, greatest})
}

func TestNewtonAt(t *testing.T) {
	cases := []struct {
		x, divided []float32
		at, want   float32
	}{
		{[]float32{0, 1, 2}, []float32{1, 2, 1}, 3, 13}, {[]float32{0, 1, 2}, []float32{1, 2, 1}, 0, 1}, {[]float32{0, 1, 2}, []float32{1, 2, 1}, 2, 7}, {[]float32{1, 2, 4, 7}, numbersOf([]int64{0x40400000, 0xc0800000, 0x40155555, 0xbf400000}), 5, 6},
		// one number, wherever it is
		{[]float32{5}, []float32{7}, 100, 7}, {[]float32{5}, []float32{minusZero}, 5, minusZero}, {[]float32{-greatest}, []float32{greatest}, greatest, greatest},
		// s is multiplied, and then the number is added
		{[]float32{0, 9}, []float32{minusZero, 0}, -1, minusZero}, {[]float32{1, 9}, []float32{number(0xbf801000), number(0x3f800800)}, number(0x40000400), 0},
		{[]float32{0, 0}, []float32{1, 2}, 3, 7}, {[]float32{2, 2, 2}, []float32{1, 1, 1}, 4, 7}, // places that are equal
		{make([]float32, 32), repeated[float32](1, 32), 1, 32}, {steps(32, 0, 1), append(make([]float32, 31), 1), 32, number(0x7a4ab56a)},
	}
	for _, c := range cases {
		got, ok := impl.NewtonAt(c.x, c.divided, c.at)
		wantResult(t, fmt.Sprint("NewtonAt ", c.x, c.divided, c.at), got, ok, c.want)
	}
}

func TestNewtonAtFails(t *testing.T) {
	check := func(x, divided []float32, at float32) {
		t.Helper()
		got, ok := impl.NewtonAt(x, divided, at)
		wantNoResult(t, fmt.Sprint("NewtonAt ", x, divided, at), got, ok)
	}
	for _, list := range notNodes() {
		check(list, steps(len(list), 0, 1), 0)
		check(steps(len(list), 0, 1), list, 0)
		check(list, list, 0)
	}
	check([]float32{0, 1}, []float32{1}, 0)
	check([]float32{0}, []float32{1, 2}, 0)
	check(steps(32, 0, 1), steps(31, 0, 1), 0)
	for _, at := range notFinite() {
		check([]float32{0, 1, 2}, []float32{1, 2, 1}, at)
		check([]float32{0}, []float32{1}, at)
	}
	check([]float32{-greatest, 0}, []float32{1, 1}, greatest)
	check([]float32{0, 0}, []float32{1, greatest}, 2)
	check([]float32{0, 0}, []float32{greatest, greatest}, 1)
	check([]float32{-greatest, 0}, []float32{1, 0}, greatest)
	check([]float32{0, 0, 0}, []float32{1, 1, 1e20}, 1e20)
}

func TestUpdatedSolve(t *testing.T) {
	pivots := factor(matrix(2, 2, 3, 4, number(0x3eaaaaab), number(0x3f2aaaab)), 1, 0)
	cases := []struct {
		f             impl.Factor
		u, v, b, want []float32
	}{
		{factor(matrix(1, 1, 2), 0), []float32{1}, []float32{2}, []float32{8}, []float32{2}}, {pivots, []float32{1, 0}, []float32{0, 1}, []float32{5, 11}, numbersOf([]int64{0x40266666, 0x3f4ccccc})}, {factor(matrix(2, 2, 4, 2, 0.5, 1), 0, 1), []float32{1, 2}, []float32{3, -1}, []float32{1, 1}, []float32{0.125, 0.125}},
		// nothing is added
		{factor(matrix(2, 2, 4, 2, 0.5, 1), 0, 1), []float32{0, 0}, []float32{3, -1}, []float32{6, 4}, []float32{1, 1}}, {factor(matrix(2, 2, 4, 2, 0.5, 1), 0, 1), []float32{1, 2}, []float32{minusZero, 0}, []float32{6, 4}, []float32{1, 1}},
		{factor(middle(repeated[float32](2, 12)...), sequence(0, 12)...), repeated[float32](1, 12), append(make([]float32, 11), 2), repeated[float32](8, 12), repeated[float32](2, 12)},
	}
	for _, c := range cases {
		got, ok := impl.UpdatedSolve(c.f, c.u, c.v, c.b)
		wantList(t, fmt.Sprint("UpdatedSolve ", toldFactor(c.f), c.u, c.v, c.b), got, ok, c.want...)
	}
}

func TestUpdatedSolveFails(t *testing.T) {
	check := func(f impl.Factor, u, v, b []float32) {
		t.Helper()
		got, ok := impl.UpdatedSolve(f, u, v, b)
		wantNothing(t, fmt.Sprint("UpdatedSolve ", toldFactor(f), u, v, b), got, ok)
	}
	good, list := factor(matrix(2, 2, 4, 2, 0.5, 1), 0, 1), []float32{1, 2}
	for _, f := range notFactors() {
		one := []float32{1}
		check(f, list, list, list)
		check(f, one, one, one)
	}
	for _, v := range notPairs() {
		check(good, v, list, list)
		check(good, list, v, list)
		check(good, list, list, v)
		check(good, v, v, v)
	}
	one := func(x float32) impl.Factor { return factor(matrix(1, 1, x), 0) }
	// FactorSolve of b, or of u, fails
	check(one(0.5), []float32{1}, []float32{1}, []float32{greatest})
	check(one(0.5), []float32{greatest}, []float32{0}, []float32{1})
	check(one(number(1)), []float32{0}, []float32{0}, []float32{1})
	// nothing solves it
	check(one(2), []float32{1}, []float32{-2}, []float32{8})
	check(one(2), []float32{1}, []float32{-2}, []float32{0})
	check(good, []float32{4, 2}, []float32{-1, 0}, []float32{1, 2})
	// DotVectors of v and x, or of v and what is solved of u, fails
	check(one(1), []float32{1}, []float32{1e20}, []float32{1e20})
	check(one(1), []float32{1e20}, []float32{1e20}, []float32{8})
	check(one(1), []float32{1e20}, []float32{-1e20}, []float32{0})
	// the result is not finite
	check(one(1), []float32{1}, []float32{-1 + 0x1p-20}, []float32{greatest})
}

func TestCrossOf(t *testing.T) {
	cases := []struct {
		a             impl.Matrix
		near          float32
		most          int64
		want          impl.Matrix
		rows, columns []int64
	}{
		{matrix(2, 2, 1, 2, 2, 4), 0.5, 2, matrix(2, 2, 1, 2, 2, 4), []int64{1}, []int64{1}}, {matrix(1, 1, 5), 0, 1, matrix(1, 1, 5), []int64{0}, []int64{0}}, {matrix(1, 1, -5), 0, 12, matrix(1, 1, -5), []int64{0}, []int64{0}}, {matrix(2, 3, 1, 2, 3, 4, 5, 6), 0, 12, matrix(2, 3, 1, 2, 3, 4, 5, 6), []int64{1, 0}, []int64{2, 0}}, {matrix(2, 3, 1, 2, 3, 4, 5, 6), 0, 1, matrix(2, 3, 2, 2.5, 3, 4, 5, 6), []int64{1}, []int64{2}},
		// nothing is taken: all are at most near
		{matrix(2, 2, 0, minusZero, 0, 0), 0, 12, filled(2, 2, 0), nil, nil}, {matrix(2, 2, 0, minusZero, 0, 0), minusZero, 1, filled(2, 2, 0), nil, nil}, {matrix(2, 2, 1, 2, 2, -4), 4, 2, filled(2, 2, 0), nil, nil}, {matrix(2, 2, 1, 2, 2, -4), greatest, 2, filled(2, 2, 0), nil, nil}, {matrix(1, 2, -greatest, minusZero), greatest, 12, filled(1, 2, 0), nil, nil},
		{matrix(2, 2, 1, 2, 2, -4), number(0x407fffff), 1, matrix(2, 2, -1, 2, 2, -4), []int64{1}, []int64{1}}, {matrix(2, 2, 1, 2, 2, -4), 2, 2, matrix(2, 2, -1, 2, 2, -4), []int64{1}, []int64{1}}, {matrix(2, 2, 1, 2, 2, -4), number(0x3fffffff), 2, matrix(2, 2, 1, 2, 2, -4), []int64{1, 0}, []int64{1, 0}}, {matrix(1, 1, number(1)), 0, 12, matrix(1, 1, number(1)), []int64{0}, []int64{0}},
		// of equal absolute values, the first one row by row
		{matrix(2, 2, 0, -3, 3, 0), 0, 12, matrix(2, 2, 0, -3, 3, 0), []int64{0, 1}, []int64{1, 0}}, {filled(3, 2, -1), 0, 12, filled(3, 2, -1), []int64{0}, []int64{0}}, {matrix(3, 3, 1, -1, 1, 1, 1, -1, 0, 2, -2), 0, 12, matrix(3, 3, 1, -1, 1, 1, 1, -1, 0, 2, -2), []int64{2, 0}, []int64{1, 0}}, {matrix(3, 3, 0, 2, 0, 2, 0, -2, 0, -2, 1), 0, 12, matrix(3, 3, 0, 2, 0, 2, 0, -2, 0, -2, 1), []int64{0, 1, 2}, []int64{1, 0, 2}},
		{filled(12, 12, greatest), 0, 12, filled(12, 12, greatest), []int64{0}, []int64{0}}, {matrix(1, 3, 0, 0, minusZero), 0, 12, filled(1, 3, 0), nil, nil}, {matrix(1, 3, 0, minusZero, 2), 0, 12, matrix(1, 3, 0, 0, 2), []int64{0}, []int64{2}},
		// as many as there may be, and as there are
		{middle(1, 2, 3, 4, 5, 6, 7, 8, 9, 10, 11, 12), 0, 12, middle(1, 2, 3, 4, 5, 6, 7, 8, 9, 10, 11, 12), reversed(sequence(0, 12)), reversed(sequence(0, 12))}, {middle(1, 2, 3, 4, 5, 6, 7, 8, 9, 10, 11, 12), 0, 11, middle(0, 2, 3, 4, 5, 6, 7, 8, 9, 10, 11, 12), reversed(sequence(1, 12)), reversed(sequence(1, 12))}, {middle(3, 1, 2), 0, 2, middle(3, 0, 2), []int64{0, 2}, []int64{0, 2}},
		{middle(3, 1, 2), 1, 12, middle(3, 0, 2), []int64{0, 2}, []int64{0, 2}},
	}
	for _, c := range cases {
		got, rows, columns, ok := impl.CrossOf(c.a, c.near, c.most)
		what := fmt.Sprint("CrossOf ", toldMatrix(c.a), c.near, c.most)
		wantMatrix(t, what, got, ok, c.want)
		wantIntegers(t, what+", rows", rows, ok, c.rows...)
		wantIntegers(t, what+", columns", columns, ok, c.columns...)
	}
}

func TestCrossOfFails(t *testing.T) {
	check := func(a impl.Matrix, near float32, most int64) {
		t.Helper()
		got, rows, columns, ok := impl.CrossOf(a, near, most)
		what := fmt.Sprint("CrossOf ", toldMatrix(a), near, most)
		wantNoMatrix(t, what, got, ok)
		wantNothing(t, what, rows, ok)
		wantNothing(t, what, columns, ok)
	}
	for _, a := range notMatrices() {
		check(a, 0, 1)
		check(a, greatest, 12)
	}
	for _, near := range notNear() {
		check(matrix(2, 2, 1, 2, 2, 4), near, 2)
		check(matrix(1, 1, 0), near, 1)
	}
	for _, most := range []int64{0, -1, 13, math.MinInt64, math.MaxInt64, 1 << 32, 1<<32 + 1} {
		check(matrix(2, 2, 1, 2, 2, 4), 0.5, most)
		check(matrix(1, 1, 0), 0, most)
	}
	great := func(parts ...float32) impl.Matrix {
		a := matrix(3, 3)
		for _, x := range parts {
			a.Numbers = append(a.Numbers, greatest*x)
		}
		return a
	}
	// what is left is not finite: at once, or behind another cross
	check(matrix(2, 2, greatest, greatest, greatest, -greatest), 0, 1)
	check(great(0.99, 0.3, 0.99, 0.9, 0.7, -0.9, 0, -0.5, -0.9), 0, 12)
	twice := great(-0.5, -0.8, 0.3, 0.3, -0.3, 0.9, -0.7, 0.5, 0.8)
	_, rows, _, ok := impl.CrossOf(twice, 0, 1)
	wantBool(t, "the first cross is finite", ok && len(rows) == 1, true)
	check(twice, 0, 2)
	// the result is not, but what is left is
	result := great(0, 0.8, -1, -0.5, -1, 1, 1, 0.8, 0)
	_, rows, _, ok = impl.CrossOf(result, 0, 1)
	wantBool(t, "the first cross is finite", ok && len(rows) == 1, true)
	check(result, 0, 2)
	check(result, 0, 12)
}
