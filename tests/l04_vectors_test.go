package tests

import (
	"fmt"
	"math"
	"testing"

	"loop.example/g01327/impl"
)

func TestUnitVector(t *testing.T) {
	cases := []struct{ v, want []float32 }{
		{[]float32{3, 4}, []float32{number(0x3f19999a), number(0x3f4ccccd)}},
		{[]float32{-7}, []float32{-1}}, {[]float32{minusZero, -2, 0}, []float32{minusZero, -1, 0}}, {[]float32{number(0x5f7fffff)}, []float32{1}},
		{repeated[float32](-2, 256), repeated[float32](-0.0625, 256)}, {repeated[float32](1, 4), repeated[float32](0.5, 4)},
		// squares that are small, or nothing beside others
		{[]float32{number(0x1a400000)}, []float32{number(0x3f87c3b7)}}, {[]float32{1, 1e-30}, []float32{1, 1e-30}}, {[]float32{1.3e19, 1.3e19}, []float32{number(0x3f3504f4), number(0x3f3504f4)}},
	}
	for _, c := range cases {
		got, ok := impl.UnitVector(c.v)
		wantList(t, fmt.Sprintf("UnitVector %08x", toldList(c.v)), got, ok, c.want...)
	}
	for _, v := range append(notVectors(), noUnits()...) {
		got, ok := impl.UnitVector(v)
		wantNothing(t, fmt.Sprintf("UnitVector %08x", toldList(v)), got, ok)
	}
}

// noUnits are vectors whose sums of squares are 0, or not finite.
func noUnits() [][]float32 {
	return [][]float32{{0}, {minusZero}, {0, minusZero, 0}, repeated[float32](0, 256), {1e-23, -1e-23}, {number(1)}, {2e19}, {1, -2e19}, {1.5e19, 1.5e19}, repeated(greatest, 256)}
}

func TestRayleighOf(t *testing.T) {
	cases := []struct {
		a    impl.Matrix
		v    []float32
		want float32
	}{
		{matrix(2, 2, 3, 0, 0, 4), []float32{1, 1}, 3.5}, {matrix(1, 1, -6), []float32{0.5}, -6}, {matrix(2, 2, 1, 2, 3, 4), []float32{1, -1}, 0}, {matrix(2, 2, 0, 2, -2, 0), []float32{3, 5}, 0}, {matrix(2, 2, 1, 2, 3, 4), []float32{2, 1}, 3.6},
		{matrix(2, 2, 1, 2, 3, 4), []float32{minusZero, -3}, 4}, {middle(repeated[float32](5, 12)...), repeated[float32](1, 12), 5}, {matrix(1, 1, minusZero), []float32{1}, 0},
		// sums on the way that are infinite
		{matrix(1, 1, 1e-30), []float32{1e20}, 0}, {middle(1e-30, 1e-30), []float32{1, -2e19}, 0},
	}
	for _, c := range cases {
		got, ok := impl.RayleighOf(c.a, c.v)
		wantResult(t, fmt.Sprintf("RayleighOf %s, %08x", toldMatrix(c.a), toldList(c.v)), got, ok, c.want)
	}
}

func TestRayleighOfFails(t *testing.T) {
	check := func(a impl.Matrix, v []float32) {
		t.Helper()
		got, ok := impl.RayleighOf(a, v)
		wantNoResult(t, fmt.Sprintf("RayleighOf %s, %08x", toldMatrix(a), toldList(v)), got, ok)
	}
	for _, a := range notSquares() {
		check(a, []float32{1})
		check(a, []float32{1, 2})
		check(a, repeated[float32](1, 12))
	}
	for _, v := range notPairs() {
		check(matrix(2, 2, 1, 2, 3, 4), v)
	}
	check(filled(12, 12, 1), repeated[float32](1, 11))
	check(filled(12, 12, 1), repeated[float32](1, 13))
	// the sum of the squares is 0
	check(matrix(2, 2, 1, 2, 3, 4), []float32{0, minusZero})
	check(matrix(1, 1, 1), []float32{1e-23})
	// the product, the sum or the quotient is not finite
	check(matrix(1, 1, greatest), []float32{2})
	check(matrix(2, 2, 1e10, 0, 0, 1), []float32{1e15, 1})
	check(matrix(1, 1, 1), []float32{1e20})
	check(matrix(2, 2, 0, 1e19, 1e19, 0), []float32{1e19, 1e19})
	check(filled(2, 2, greatest), []float32{1e-20, 1e-20})
}

func TestPowerRounds(t *testing.T) {
	d := matrix(2, 2, 3, 0, 0, 4)
	half := number(0x3f3504f3)
	cases := []struct {
		a      impl.Matrix
		v      []float32
		rounds int64
		want   []float32
		value  float32
	}{
		{d, []float32{3, 4}, 0, []float32{0.6, 0.8}, number(0x4068f5c4)}, {d, []float32{0, 5}, 64, []float32{0, 1}, 4}, {d, []float32{-5, 0}, 64, []float32{-1, 0}, 3}, {matrix(1, 1, -2), []float32{3}, 1, []float32{-1}, -2}, {matrix(1, 1, -2), []float32{3}, 64, []float32{1}, -2},
		{matrix(2, 2, 0, 1, 1, 0), []float32{1, 0}, 1, []float32{0, 1}, 0}, {matrix(2, 2, 0, 1, 1, 0), []float32{1, 0}, 63, []float32{0, 1}, 0}, {matrix(2, 2, 0, 1, 1, 0), []float32{1, 0}, 64, []float32{1, 0}, 0},
		{matrix(2, 2, 0, 0, 0, 0), []float32{1, 1}, 0, []float32{half, half}, 0}, {middle(repeated[float32](2, 12)...), repeated[float32](1, 12), 0, repeated(number(0x3e93cd3a), 12), 2}, {matrix(1, 1, greatest), []float32{1}, 0, []float32{1}, greatest},
	}
	for _, c := range cases {
		got, value, ok := impl.PowerRounds(c.a, c.v, c.rounds)
		what := fmt.Sprintf("PowerRounds %s, %08x, %d", toldMatrix(c.a), toldList(c.v), c.rounds)
		wantList(t, what, got, ok, c.want...)
		wantResult(t, what, value, ok, c.value)
	}
	got, value, ok := impl.PowerRounds(d, []float32{1, 1}, 64)
	wantBool(t, "PowerRounds leads to the greatest value", ok && got[0] < 1e-7 && got[1] > 0.999 && value > 3.999 && value < 4.001, true)
}

func TestPowerRoundsFail(t *testing.T) {
	check := func(a impl.Matrix, v []float32, rounds int64) {
		t.Helper()
		got, value, ok := impl.PowerRounds(a, v, rounds)
		what := fmt.Sprintf("PowerRounds %s, %08x, %d", toldMatrix(a), toldList(v), rounds)
		wantNothing(t, what, got, ok)
		wantNoResult(t, what, value, ok)
	}
	d := matrix(2, 2, 3, 0, 0, 4)
	for _, a := range notSquares() {
		check(a, []float32{1}, 0)
		check(a, []float32{1, 2}, 1)
		check(a, repeated[float32](1, 12), 1)
	}
	for _, v := range append(notPairs(), noUnits()...) {
		check(d, v, 0)
		check(d, v, 2)
	}
	for _, rounds := range notRounds() {
		check(d, []float32{1, 1}, rounds)
	}
	check(d, []float32{0, minusZero}, 0)
	// it is led to nothing, or to what is not finite
	check(filled(2, 2, 0), []float32{1, 1}, 1)
	check(matrix(2, 2, 0, 1, 0, 0), []float32{1, 1}, 2)
	check(matrix(1, 1, 1e-23), []float32{1}, 1)
	check(matrix(1, 1, 2e19), []float32{1}, 1)
	check(filled(2, 2, greatest), []float32{1, 1}, 0)
	check(filled(2, 2, greatest), []float32{1, 1}, 1)
}

func TestCosineOf(t *testing.T) {
	cases := []struct {
		v, w []float32
		want float32
	}{
		{[]float32{1, 0}, []float32{-2, 0}, 1}, {[]float32{1, 0}, []float32{0, 5}, 0}, {[]float32{1, 0}, []float32{minusZero, -5}, 0}, {[]float32{3, 4}, []float32{5, 0}, number(0x3f19999a)}, {[]float32{3, 4}, []float32{-4, -3}, number(0x3f75c290)}, {[]float32{-3}, []float32{9}, 1},
		{repeated[float32](1, 256), repeated[float32](-3, 256), 1}, {[]float32{1, 1}, []float32{1, 1}, number(0x3f7fffff)},
	}
	for _, c := range cases {
		got, ok := impl.CosineOf(c.v, c.w)
		wantResult(t, fmt.Sprintf("CosineOf %08x, %08x", toldList(c.v), toldList(c.w)), got, ok, c.want)
		got, ok = impl.CosineOf(c.w, c.v)
		wantResult(t, fmt.Sprintf("CosineOf %08x, %08x", toldList(c.w), toldList(c.v)), got, ok, c.want)
	}
	for _, v := range append(notVectors(), noUnits()...) {
		for _, w := range [][]float32{v, repeated[float32](1, len(v)), {1}} {
			got, ok := impl.CosineOf(v, w)
			wantNoResult(t, fmt.Sprintf("CosineOf %08x, %08x", toldList(v), toldList(w)), got, ok)
			got, ok = impl.CosineOf(w, v)
			wantNoResult(t, fmt.Sprintf("CosineOf %08x, %08x", toldList(w), toldList(v)), got, ok)
		}
	}
	for _, n := range []int{1, 3, 256} {
		got, ok := impl.CosineOf([]float32{1, 1}, repeated[float32](1, n))
		wantNoResult(t, "CosineOf vectors of other lengths", got, ok)
	}
}

func TestExampleOfSingularValues(t *testing.T) {
	for rounds := range int64(4) {
		got, ok := impl.SingularOf(matrix(2, 2, 3, 0, 0, 4), rounds)
		wantList(t, "SingularOf the columns 3 0 and 0 4", got, ok, 4, 3)
	}
}

func TestSideTurns(t *testing.T) {
	unit := func(n int) impl.Matrix { return middle(repeated[float32](1, n)...) }
	half := number(0x3f3504f3)
	cases := []struct {
		a      impl.Matrix
		rounds int64
		u, v   impl.Matrix
	}{
		{matrix(2, 2, 3, 0, 0, 4), 2, matrix(2, 2, 3, 0, 0, 4), unit(2)},
		{matrix(2, 2, 1, 2, 3, 4), 0, matrix(2, 2, 1, 2, 3, 4), unit(2)},
		{matrix(3, 1, 1, -2, minusZero), 64, matrix(3, 1, 1, -2, minusZero), unit(1)},
		{matrix(1, 1, greatest), 64, matrix(1, 1, greatest), unit(1)}, // a column alone has no pair
		{filled(12, 12, greatest), 0, filled(12, 12, greatest), unit(12)},
		// columns of zeros share nothing, and stay as they are
		{matrix(2, 2, 0, minusZero, minusZero, 0), 64, matrix(2, 2, 0, minusZero, minusZero, 0), unit(2)},
		{matrix(3, 2, minusZero, 5, 0, -6, 0, minusZero), 64, matrix(3, 2, minusZero, 5, 0, -6, 0, minusZero), unit(2)},
		{matrix(2, 2, 1, minusZero, minusZero, 1), 1, matrix(2, 2, 1, minusZero, minusZero, 1), unit(2)},
		{filled(12, 12, 0), 64, filled(12, 12, 0), unit(12)},
		// their products are too small
		{matrix(2, 2, 1e-23, 1e-23, 1e-23, 1e-23), 3, matrix(2, 2, 1e-23, 1e-23, 1e-23, 1e-23), unit(2)},
		// equal columns, and opposite ones: h is +0 and -0
		{matrix(2, 2, 1, 1, 0, 0), 1, matrix(2, 2, 0, number(0x3fb504f3), 0, 0), matrix(2, 2, half, half, -half, half)},
		{matrix(2, 2, 1, -1, 0, 0), 1, matrix(2, 2, number(0x3fb504f3), 0, 0, 0), matrix(2, 2, half, half, -half, half)},
	}
	for _, c := range cases {
		what := fmt.Sprintf("SideTurns %s, %d", toldMatrix(c.a), c.rounds)
		u, v, ok := impl.SideTurns(c.a, c.rounds)
		wantMatrix(t, what, u, ok, c.u)
		wantMatrix(t, what, v, ok, c.v)
	}
}

// notTall are matrices with fewer rows than columns, or not valid ones.
func notTall() []impl.Matrix {
	return append(notMatrices(), matrix(1, 2, 1, 2), filled(11, 12, 1), filled(1, 12, 0))
}

// tooGreat are matrices whose columns have sums that are not finite.
func tooGreat() []impl.Matrix {
	return []impl.Matrix{
		matrix(2, 2, 2e19, 0, 0, 1), matrix(2, 2, 1, 0, 0, 2e19), matrix(2, 2, 1.5e19, 0, 1.5e19, 0), matrix(2, 2, greatest, greatest, greatest, greatest), matrix(3, 2, 0, 1.5e19, 0, 1.5e19, 1, 0), matrix(2, 2, 1.4e19, 1.4e19, 1.4e19, 1.4e19),
		matrix(3, 3, 1, 0, 0, 0, 1, 0, 0, 0, 2e19),
	}
}

func TestSideTurnsFail(t *testing.T) {
	check := func(a impl.Matrix, keep, rounds int64) {
		t.Helper()
		what := fmt.Sprintf("%s, %d, %d", toldMatrix(a), keep, rounds)
		u, v, ok := impl.SideTurns(a, rounds)
		wantNoMatrix(t, "SideTurns "+what, u, ok)
		wantNoMatrix(t, "SideTurns "+what, v, ok)
		list, ok := impl.SingularOf(a, rounds)
		wantNothing(t, "SingularOf "+what, list, ok)
		low, ok := impl.LowMatrix(a, keep, rounds)
		wantNoMatrix(t, "LowMatrix "+what, low, ok)
	}
	for _, a := range notTall() {
		check(a, 0, 0)
		check(a, 1, 1)
	}
	for _, rounds := range notRounds() {
		check(matrix(2, 2, 1, 2, 3, 4), 1, rounds)
		check(matrix(1, 1, 1), 1, rounds)
	}
	for _, a := range tooGreat() {
		check(a, 0, 1)
		check(a, 1, 64)
		_, _, ok := impl.SideTurns(a, 0)
		wantBool(t, "no turn, no failure", ok, true)
	}
}

func TestSingularOf(t *testing.T) {
	cases := []struct {
		a      impl.Matrix
		rounds int64
		want   []float32
	}{
		{matrix(2, 1, 3, -4), 0, []float32{5}}, {matrix(2, 1, 3, -4), 64, []float32{5}}, {matrix(2, 2, 1, 2, 3, 4), 0, []float32{number(0x408f1bbd), number(0x404a62c2)}}, {middle(1, 3, 2), 1, []float32{3, 2, 1}}, {filled(12, 12, 0), 64, repeated[float32](0, 12)}, {middle(minusZero, -2), 1, []float32{2, 0}},
		{matrix(2, 2, 1, 1, 0, 0), 1, []float32{number(0x3fb504f3), 0}}, {matrix(1, 1, 1e-23), 1, []float32{0}}, {middle(repeated[float32](-6, 12)...), 64, repeated[float32](6, 12)},
	}
	for _, c := range cases {
		got, ok := impl.SingularOf(c.a, c.rounds)
		wantList(t, fmt.Sprintf("SingularOf %s, %d", toldMatrix(c.a), c.rounds), got, ok, c.want...)
	}
	for _, a := range append(tooGreat()[:5], matrix(1, 1, 2e19), matrix(2, 1, 1.5e19, 1.5e19)) {
		got, ok := impl.SingularOf(a, 0)
		wantNothing(t, fmt.Sprintf("SingularOf %s", toldMatrix(a)), got, ok)
	}
}

func TestRankOfValues(t *testing.T) {
	cases := []struct {
		list  []float32
		limit float32
		want  int64
	}{
		{[]float32{4, 3}, 3, 1}, {[]float32{4, 3}, 4, 0}, {[]float32{4, 3}, 2.99, 2}, {[]float32{3, 4, 5}, 3.5, 2}, {[]float32{0, minusZero}, 0, 0}, {[]float32{0, minusZero}, minusZero, 0}, {[]float32{0, minusZero}, -number(1), 2},
		{repeated[float32](1, 12), 0, 12}, {[]float32{-1}, -greatest, 1}, {[]float32{greatest}, greatest, 0}, {[]float32{-greatest, 1}, 0, 1},
	}
	for _, c := range cases {
		got, ok := impl.RankOfValues(c.list, c.limit)
		if !ok || got != c.want {
			t.Errorf("RankOfValues %v, %v: got %d %v, want %d", c.list, c.limit, got, ok, c.want)
		}
	}
	check := func(list []float32, limit float32) {
		t.Helper()
		got, ok := impl.RankOfValues(list, limit)
		if ok || got != 0 {
			t.Errorf("RankOfValues %v, %v: got %d %v, want nothing", list, limit, got, ok)
		}
	}
	for _, list := range append(notVectors(), repeated[float32](1, 13), repeated[float32](1, 256)) {
		check(list, 0)
	}
	for _, limit := range notFinite() {
		check([]float32{1, 2}, limit)
	}
}

func TestLowMatrix(t *testing.T) {
	d := matrix(2, 2, 3, 0, 0, 4)
	cases := []struct {
		a            impl.Matrix
		keep, rounds int64
		want         impl.Matrix
	}{
		{d, 0, 2, filled(2, 2, 0)}, {d, 1, 2, matrix(2, 2, 0, 0, 0, 4)}, {d, 2, 2, d},
		{matrix(2, 2, 1, 2, 3, 4), 1, 0, matrix(2, 2, 0, 2, 0, 4)}, {matrix(2, 2, 1, 2, 3, 4), 2, 0, matrix(2, 2, 1, 2, 3, 4)},
		// the first ones of columns with equal sums of squares
		{middle(5, 5, 5), 1, 4, middle(5, 0, 0)}, {middle(5, -5, 5), 2, 4, middle(5, -5, 0)}, {middle(4, 5, 5, 5), 2, 0, middle(0, 5, 5, 0)}, {matrix(2, 2, 3, 5, 4, 0), 1, 0, matrix(2, 2, 3, 0, 4, 0)},
		// columns of zeros, and sums begin with +0
		{filled(3, 2, minusZero), 2, 1, filled(3, 2, 0)}, {matrix(2, 1, minusZero, -2), 1, 1, matrix(2, 1, 0, -2)}, {matrix(2, 1, 7, -2), 0, 64, matrix(2, 1, 0, 0)},
		// sums of squares that are infinite are equal
		{matrix(1, 1, greatest), 1, 64, matrix(1, 1, greatest)}, {middle(1, 1e30, greatest), 1, 0, middle(0, 1e30, 0)}, {middle(1, 1e30, greatest), 2, 0, middle(0, 1e30, greatest)},
		{middle(repeated[float32](2, 12)...), 12, 64, middle(repeated[float32](2, 12)...)}, {middle(repeated[float32](2, 12)...), 11, 1, middle(2, 2, 2, 2, 2, 2, 2, 2, 2, 2, 2, 0)},
	}
	for _, c := range cases {
		got, ok := impl.LowMatrix(c.a, c.keep, c.rounds)
		wantMatrix(t, fmt.Sprintf("LowMatrix %s, %d, %d", toldMatrix(c.a), c.keep, c.rounds), got, ok, c.want)
	}
	for _, keep := range []int64{-1, 3, math.MinInt64, math.MaxInt64, 1 << 32} {
		got, ok := impl.LowMatrix(filled(4, 2, 1), keep, 1)
		wantNoMatrix(t, "LowMatrix", got, ok)
	}
	got, ok := impl.LowMatrix(filled(12, 12, 1), 13, 0)
	wantNoMatrix(t, "LowMatrix", got, ok)
}
