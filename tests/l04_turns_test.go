package tests

import (
	"fmt"
	"math"
	"testing"

	"loop.example/g01327/impl"
)

func TestIsSymmetric(t *testing.T) {
	symmetric := []impl.Matrix{
		matrix(1, 1, 5), matrix(2, 2, 2, 1, 1, 2), matrix(2, 2, 1, 0, minusZero, 1), matrix(2, 2, minusZero, -3, -3, greatest), matrix(3, 3, 1, 2, 3, 2, 4, 5, 3, 5, 6), filled(12, 12, -1),
	}
	for _, a := range symmetric {
		wantBool(t, "IsSymmetric "+toldMatrix(a), impl.IsSymmetric(a), true)
	}
	for _, a := range notSymmetric() {
		wantBool(t, "IsSymmetric "+toldMatrix(a), impl.IsSymmetric(a), false)
	}
}

// notSymmetric are values that are not symmetric squares.
func notSymmetric() []impl.Matrix {
	corner := filled(12, 12, 1)
	corner.Numbers[11] = number(0x3f800001)
	return append(notSquares(), matrix(2, 2, 1, 2, -2, 1), matrix(2, 2, 0, 1, 0, 0), matrix(3, 3, 1, 2, 3, 2, 4, 5, 3, 6, 6), matrix(2, 2, 1, 1, number(0x3f800001), 1), corner)
}

func TestSymmetricPart(t *testing.T) {
	cases := []struct{ a, want impl.Matrix }{
		{matrix(2, 2, 1, 2, 4, 1), matrix(2, 2, 1, 3, 3, 1)},
		{matrix(1, 1, -3), matrix(1, 1, -3)},
		{matrix(2, 2, minusZero, minusZero, minusZero, 0), matrix(2, 2, minusZero, minusZero, minusZero, 0)},
		{matrix(2, 2, minusZero, minusZero, 0, 0), matrix(2, 2, minusZero, 0, 0, 0)},
		{matrix(3, 3, 1, 2, 3, 4, 5, 6, 7, 8, 9), matrix(3, 3, 1, 3, 5, 3, 5, 7, 5, 7, 9)},
		{matrix(2, 2, 0, 1, 1e-10, 0), matrix(2, 2, 0, 0.5, 0.5, 0)},
		{matrix(2, 2, 1, greatest, -greatest, 1), matrix(2, 2, 1, 0, 0, 1)},
		{matrix(2, 2, number(2), number(1), number(2), number(3)), matrix(2, 2, number(2), number(2), number(2), number(3))},
		{filled(12, 12, 7), filled(12, 12, 7)},
	}
	for _, c := range cases {
		got, ok := impl.SymmetricPart(c.a)
		wantMatrix(t, "SymmetricPart "+toldMatrix(c.a), got, ok, c.want)
	}
	for _, a := range append(notSquares(), matrix(1, 1, greatest), matrix(2, 2, 1, greatest, greatest, 1), matrix(2, 2, 1, -2e38, -2e38, 1)) {
		got, ok := impl.SymmetricPart(a)
		wantNoMatrix(t, "SymmetricPart "+toldMatrix(a), got, ok)
	}
}

func TestOffNorm(t *testing.T) {
	cases := []struct {
		a    impl.Matrix
		want float32
	}{
		{matrix(2, 2, 1, 3, 4, 1), 5}, {matrix(1, 1, 7), 0}, {middle(greatest, -greatest, greatest), 0}, {matrix(2, 2, greatest, minusZero, minusZero, minusZero), 0}, {matrix(3, 3, 9, 1, -1, 1, 9, 1, 1, 3, 9), number(0x406f7751)},
		{filled(12, 12, 2), number(0x41b7d375)}, {matrix(2, 2, 1, 1e-30, 1e-30, 1), 0}, {matrix(2, 2, 1, 4096, 1, 1), 4096}, {matrix(3, 3, 0, 4096, 1, 1, 0, 1, 1, 1, 0), 4096}, {matrix(3, 3, 0, 1, 1, 1, 0, 1, 1, 4096, 0), number(0x45800001)},
	}
	for _, c := range cases {
		got, ok := impl.OffNorm(c.a)
		wantResult(t, "OffNorm "+toldMatrix(c.a), got, ok, c.want)
	}
	for _, a := range append(notSquares(), matrix(2, 2, 1, 2e19, 1, 1), matrix(2, 2, 1, 1.5e19, 1.5e19, 1), matrix(2, 2, 0, greatest, -greatest, 0)) {
		got, ok := impl.OffNorm(a)
		wantNoResult(t, "OffNorm "+toldMatrix(a), got, ok)
	}
}

func TestTurns(t *testing.T) {
	const half, most, less = 0x3f3504f3, 0x3f64f92e, 0x3ee4f92e // the root of 1/2, and c and s where h is 3/4
	least := number(1)
	cases := []struct {
		a    impl.Matrix
		i, k int64
		c, s int64
		pair impl.Matrix
	}{
		{matrix(2, 2, 2, 1, 1, 2), 0, 1, half, half, matrix(2, 2, number(0x3f7fffff), 0, 0, number(0x403fffff))},
		// h is -0, which is not less than 0
		{matrix(2, 2, 2, -1, -1, 2), 0, 1, half, half, matrix(2, 2, number(0x403fffff), 0, 0, number(0x3f7fffff))},
		{matrix(2, 2, 1, 2, 2, 4), 0, 1, most, less, matrix(2, 2, 0, 0, 0, 5)},
		{matrix(2, 2, 4, 2, 2, 1), 0, 1, most, 0x80000000 | less, matrix(2, 2, 5, 0, 0, 0)},
		{matrix(2, 2, 1, -2, -2, 4), 0, 1, most, 0x80000000 | less, matrix(2, 2, 0, 0, 0, 5)},
		// a z that is 0, of both signs
		{matrix(2, 2, 1, 0, 0, 2), 0, 1, 0x3f800000, 0, matrix(2, 2, 1, 0, 0, 2)},
		{matrix(2, 2, 2, minusZero, 0, 1), 0, 1, 0x3f800000, 0, matrix(2, 2, 2, 0, 0, 1)},
		{filled(3, 3, minusZero), 0, 2, 0x3f800000, 0, matrix(3, 3, 0, 0, 0, 0, minusZero, minusZero, 0, minusZero, minusZero)},
		{matrix(3, 3, 1, -4, 0, -4, 2, 6, 0, 6, 3), 0, 2, 0x3f800000, 0, matrix(3, 3, 1, -4, 0, -4, 2, 6, 0, 6, 3)},
		{matrix(3, 3, 1, 0, 0, minusZero, 2, 5, 0, 5, 3), 0, 2, 0x3f800000, 0, matrix(3, 3, 1, 0, 0, minusZero, 2, 5, 0, 5, 3)},
		// an h that is infinite, or whose square is
		{matrix(2, 2, greatest, 1, 1, -greatest), 0, 1, 0x3f800000, 0x80000000, matrix(2, 2, greatest, 0, 0, -greatest)},
		{matrix(2, 2, -greatest, 1, 1, greatest), 0, 1, 0x3f800000, 0, matrix(2, 2, -greatest, 0, 0, greatest)},
		{matrix(2, 2, 1, 1e-30, 1e-30, 0), 0, 1, 0x3f800000, 0x80000000, matrix(2, 2, 1, 0, 0, 0)},
		{matrix(2, 2, 1, least, least, 2), 0, 1, 0x3f800000, 0, matrix(2, 2, 1, 0, 0, 2)},
		{matrix(2, 2, 1, least, least, 1), 0, 1, half, half, matrix(2, 2, number(0x3f7fffff), 0, 0, number(0x3f7fffff))},
		// 2 z is infinite
		{matrix(2, 2, 1, greatest, greatest, 1), 0, 1, half, half, matrix(2, 2, number(0xff7ffffe), 0, 0, number(0x7f7ffffe))},
		// other rows and columns are turned, too
		{matrix(3, 3, 1, 5, 2, 5, -7, 3, 2, 3, 4), 0, 2, most, less, matrix(3, 3, 0, number(0x40485a09), 0, number(0x40485a09), -7, number(0x409d6b50), 0, number(0x409d6b50), 5)},
		{middle(repeated[float32](3, 12)...), 10, 11, 0x3f800000, 0, middle(repeated[float32](3, 12)...)},
	}
	for _, x := range cases {
		what := fmt.Sprintf("%s, %d, %d", toldMatrix(x.a), x.i, x.k)
		c, s, ok := impl.TurnOf(x.a, x.i, x.k)
		wantResult(t, "c of TurnOf "+what, c, ok, number(x.c))
		wantResult(t, "s of TurnOf "+what, s, ok, number(x.s))
		pair, ok := impl.TurnPair(x.a, x.i, x.k)
		wantMatrix(t, "TurnPair "+what, pair, ok, x.pair)
	}
}

func TestTurnsFail(t *testing.T) {
	check := func(a impl.Matrix, i, k int64) {
		t.Helper()
		what := fmt.Sprintf("%s, %d, %d", toldMatrix(a), i, k)
		c, s, ok := impl.TurnOf(a, i, k)
		wantNoResult(t, "c of TurnOf "+what, c, ok)
		wantNoResult(t, "s of TurnOf "+what, s, ok)
		pair, ok := impl.TurnPair(a, i, k)
		wantNoMatrix(t, "TurnPair "+what, pair, ok)
	}
	for _, a := range notSymmetric() {
		check(a, 0, 1)
		check(a, 0, 0)
		check(a, 1, 12)
	}
	// indices that are equal or exchanged, or of no row
	for _, p := range [][2]int64{{0, 0}, {1, 1}, {1, 0}, {-1, 0}, {-1, 1}, {0, 2}, {1, 2}, {0, -1}, {2, 3}, {math.MinInt64, 1}, {0, math.MaxInt64}, {math.MaxInt64, math.MinInt64}, {1 << 32, 1<<32 + 1}} {
		check(matrix(2, 2, 2, 1, 1, 2), p[0], p[1])
	}
	check(matrix(1, 1, 1), 0, 0)
	check(matrix(1, 1, 1), 0, 1)
	check(filled(12, 12, 1), 11, 12)
	check(filled(12, 12, 1), 0, 12)
	// h is the quotient of infinite numbers
	check(matrix(2, 2, -greatest, greatest, greatest, greatest), 0, 1)
	check(matrix(2, 2, greatest, -greatest, -greatest, -greatest), 0, 1)
}

func TestTurnPairFails(t *testing.T) {
	for _, a := range []impl.Matrix{filled(2, 2, greatest), filled(3, 3, -greatest), matrix(3, 3, 1, 1, greatest, 1, 1, greatest, greatest, greatest, 1)} {
		_, _, ok := impl.TurnOf(a, 0, 1)
		wantBool(t, "TurnOf "+toldMatrix(a), ok, true)
		pair, ok := impl.TurnPair(a, 0, 1)
		wantNoMatrix(t, "TurnPair "+toldMatrix(a), pair, ok)
	}
}

func TestTurnValues(t *testing.T) {
	unit := func(n int) impl.Matrix { return middle(repeated[float32](1, n)...) }
	half := number(0x3f3504f3)
	cases := []struct {
		a       impl.Matrix
		rounds  int64
		values  []float32
		vectors impl.Matrix
	}{
		{matrix(1, 1, -3), 0, []float32{-3}, unit(1)},
		{matrix(1, 1, minusZero), 64, []float32{minusZero}, unit(1)},
		{matrix(2, 2, 2, 1, 1, 2), 0, []float32{2, 2}, unit(2)},
		{matrix(2, 2, 2, 1, 1, 1), 0, []float32{1, 2}, matrix(2, 2, 0, 1, 1, 0)},
		{matrix(2, 2, 2, 1, 1, 2), 1, []float32{number(0x3f7fffff), number(0x403fffff)}, matrix(2, 2, half, half, -half, half)},
		{matrix(2, 2, 2, 1, 1, 2), 64, []float32{number(0x3f7fffff), number(0x403fffff)}, matrix(2, 2, half, half, -half, half)},
		{matrix(2, 2, 2, -1, -1, 2), 1, []float32{number(0x3f7fffff), number(0x403fffff)}, matrix(2, 2, half, half, half, -half)},
		// equal values stand in the order of their indices, and zeros are equal
		{middle(2, 1, 2, 1), 0, []float32{1, 1, 2, 2}, matrix(4, 4, 0, 0, 1, 0, 1, 0, 0, 0, 0, 0, 0, 1, 0, 1, 0, 0)},
		{middle(2, 1, 2, 1), 3, []float32{1, 1, 2, 2}, matrix(4, 4, 0, 0, 1, 0, 1, 0, 0, 0, 0, 0, 0, 1, 0, 1, 0, 0)},
		{middle(0, minusZero), 0, []float32{0, minusZero}, unit(2)},
		{middle(minusZero, 0), 0, []float32{minusZero, 0}, unit(2)},
		{middle(1, 0, minusZero, -1), 0, []float32{-1, 0, minusZero, 1}, matrix(4, 4, 0, 0, 0, 1, 0, 1, 0, 0, 0, 0, 1, 0, 1, 0, 0, 0)},
		{middle(repeated[float32](4, 12)...), 64, repeated[float32](4, 12), unit(12)},
		{filled(12, 12, 0), 64, repeated[float32](0, 12), unit(12)},
		{filled(2, 2, minusZero), 0, []float32{minusZero, minusZero}, unit(2)},
	}
	for _, c := range cases {
		what := fmt.Sprintf("TurnValues %s, %d", toldMatrix(c.a), c.rounds)
		values, vectors, ok := impl.TurnValues(c.a, c.rounds)
		wantList(t, what, values, ok, c.values...)
		wantMatrix(t, what, vectors, ok, c.vectors)
	}
}

func TestTurnValuesFail(t *testing.T) {
	check := func(a impl.Matrix, rounds int64) {
		t.Helper()
		what := fmt.Sprintf("TurnValues %s, %d", toldMatrix(a), rounds)
		values, vectors, ok := impl.TurnValues(a, rounds)
		wantNothing(t, what, values, ok)
		wantNoMatrix(t, what, vectors, ok)
	}
	for _, a := range notSymmetric() {
		check(a, 0)
		check(a, 1)
	}
	for _, rounds := range notRounds() {
		check(matrix(2, 2, 2, 1, 1, 2), rounds)
		check(matrix(1, 1, 1), rounds)
	}
	check(filled(2, 2, greatest), 1)
	check(filled(12, 12, greatest), 64)
	check(matrix(2, 2, -greatest, greatest, greatest, greatest), 1)
	// the last pair, and one before it
	check(matrix(3, 3, 1, 0, 0, 0, greatest, greatest, 0, greatest, greatest), 1)
	check(matrix(3, 3, greatest, greatest, 0, greatest, greatest, 0, 0, 0, 1), 2)
	_, _, ok := impl.TurnValues(filled(2, 2, greatest), 0)
	wantBool(t, "no turn, no failure", ok, true)
}

// notRounds are numbers of rounds that there cannot be.
func notRounds() []int64 {
	return []int64{-1, 65, math.MinInt64, math.MaxInt64, 1 << 32, 100}
}
