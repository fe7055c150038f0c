package tests

import (
	"fmt"
	"math"
	"testing"

	"loop.example/g01327/impl"
)

// line3 is a chain of 3 rows, which makes 6, 9, 4 of 1, 1, 1.
func line3() impl.Sparse { return few(3, 4, 2, untold, 2, 5, 2, untold, 2, 2) }

// alone returns the square with some numbers in its middle.
func alone(numbers ...float32) impl.Sparse {
	side := int64(len(numbers))
	a := fewAt(side, 1, func(i, k int64) bool { return i == k })
	copy(a.Values, numbers)
	return a
}

// notNear are what no norm is compared with.
func notNear() []float32 {
	return append(notFinite(), -1, -number(1), -greatest)
}

// wantSolved compares what is solved, and in how many rounds; 0 numbers tell that it fails.
func wantSolved(t *testing.T, what string, x []float32, rounds int64, ok bool, want []float32, wantRounds int64) {
	t.Helper()
	if len(want) == 0 {
		wantNothing(t, what, x, ok)
	} else {
		wantList(t, what, x, ok, want...)
	}
	wantBool(t, fmt.Sprint(what, " makes rounds, got ", rounds), rounds == wantRounds, true)
}

func TestSparseRounds(t *testing.T) {
	two := few(2, 4, 1, 2, 5)
	cases := []struct {
		a           impl.Sparse
		b           []float32
		haste, near float32
		most        int64
		want        []float32
		rounds      int64
	}{
		{few(1, 4), []float32{8}, 1, 0, 3, []float32{2}, 1}, {few(1, 4), []float32{8}, 1, minusZero, 1, []float32{2}, 1}, {few(1, -4), []float32{8}, 1, 0, 128, []float32{-2}, 1}, {few(1, 4), []float32{8}, 0.5, 1, 3, []float32{1.75}, 3}, {few(1, 4), []float32{8}, 1.5, 1, 3, []float32{2.25}, 3},
		// it ends behind a round, not before one, and as soon as the norm is near
		{few(1, 4), []float32{8}, 0.5, 8, 3, []float32{1}, 1}, {few(1, 4), []float32{8}, 0.5, 4, 3, []float32{1}, 1}, {few(1, 4), []float32{8}, 0.5, number(0x407fffff), 3, []float32{1.5}, 2}, {few(1, 4), []float32{0}, 1, 0, 3, []float32{0}, 1}, {few(1, 4), []float32{minusZero}, 1.5, 0, 3, []float32{0}, 1}, {line3(), []float32{6, 9, 4}, 1, greatest, 1, []float32{1.5, 1.2, number(0x3f4ccccc)}, 1},
		// a round takes what is new, row by row
		{two, []float32{5, 7}, 1, 0, 20, []float32{1, 1}, 8}, {two, []float32{5, 7}, 1.25, 1e-3, 20, []float32{number(0x3f7ffe80), number(0x3f8002e9)}, 7}, {few(2, 1, untold, 1, 1), []float32{3, 5}, 1, 0, 1, []float32{3, 2}, 1}, {few(2, 1, 1, untold, 1), []float32{5, 2}, 1, 0, 2, []float32{3, 2}, 2},
		{line3(), []float32{6, 9, 4}, 1, 1e-3, 128, []float32{number(0x3f7fe83a), number(0x3f800e44), number(0x3f7fe378)}, 13}, {line3(), []float32{6, 9, 4}, 1.3, 1e-3, 8, []float32{number(0x3f7ff9bb), number(0x3f7ffdc9), number(0x3f7ffa2d)}, 8},
		// rows without neighbours, and places that are told as 0
		{alone(2, -4, 8), []float32{4, 4, 4}, 1, 0, 1, []float32{2, -1, 0.5}, 1}, {few(2, 2, 0, minusZero, -4), []float32{4, 4}, 1, 0, 1, []float32{2, -1}, 1}, {alone(repeated[float32](2, 32)...), repeated[float32](3, 32), 1, 0, 1, repeated[float32](1.5, 32), 1},
		// numbers that are great, and small
		{few(1, 4), []float32{1e20}, 1, 0, 3, []float32{number(0x5fad78ec)}, 1}, {few(1, number(1)), []float32{number(3)}, 1, 0, 3, []float32{3}, 1}, {few(1, 1), []float32{1e-30}, 0.5, 0, 1, []float32{0.5e-30}, 1},
		// 128 rounds
		{few(1, 4), []float32{8}, 0x1p-10, number(0x40e1e7c9), 128, []float32{number(0x3e70c1ba)}, 128}, {few(1, 4), []float32{8}, 0x1p-10, number(0x40e22051), 128, []float32{number(0x3e6efd79)}, 127}, {few(1, 4), []float32{8}, number(0x3fffffff), 8, 1, []float32{number(0x407fffff)}, 1}, {few(1, 4), []float32{8}, number(1), 8, 1, []float32{number(2)}, 1},
	}
	for _, c := range cases {
		got, rounds, ok := impl.SparseRounds(c.a, c.b, c.haste, c.near, c.most)
		wantSolved(t, fmt.Sprint("SparseRounds ", toldSparse(c.a), c.b, c.haste, c.near, c.most), got, rounds, ok, c.want, c.rounds)
	}
}

func TestSparseRoundsFail(t *testing.T) {
	check := func(a impl.Sparse, b []float32, haste, near float32, most int64) {
		t.Helper()
		got, rounds, ok := impl.SparseRounds(a, b, haste, near, most)
		wantSolved(t, fmt.Sprint("SparseRounds ", toldSparse(a), b, haste, near, most), got, rounds, ok, nil, 0)
	}
	four, b := few(1, 4), []float32{8}
	for _, a := range notSparse() {
		check(a, b, 1, greatest, 3)
		check(a, []float32{1, 2}, 1, greatest, 3)
		check(a, repeated[float32](1, 33), 1, greatest, 3)
	}
	for _, v := range notPairs() {
		check(alone(1, 1), v, 1, greatest, 3)
	}
	for _, haste := range append(notFinite(), 0, minusZero, 2, -1, -number(1), number(0x40000001), 3, greatest) {
		check(four, b, haste, 8, 3)
	}
	for _, near := range notNear() {
		check(four, b, 1, near, 3)
	}
	for _, most := range []int64{0, -1, 129, math.MinInt64, math.MaxInt64, 1 << 32} {
		check(four, b, 1, 8, most)
	}
	// a middle that is not told, or is 0
	for _, a := range []impl.Sparse{nothing(2), few(2, 1, untold, 1, untold), few(2, untold, 1, 1, 1), few(2, untold, 1, 1, untold), few(2, 1, 1, 1, 0), few(2, minusZero, untold, untold, 1), few(2, 1, 1, 1, minusZero)} {
		check(a, []float32{0, 0}, 1, greatest, 3)
	}
	// no round brings it near enough
	check(four, b, 0.5, 1, 2)
	check(four, b, 0x1p-10, number(0x40e1e7c9), 127)
	check(four, b, 0x1p-10, number(0x40e1af4f), 128)
	check(few(2, 4, 1, 2, 5), []float32{5, 7}, 1, 0, 7)
	check(few(2, 1, 2, 2, 1), []float32{1, 1}, 1, 0.5, 20)
	// x, or the norm, is not finite
	check(few(1, number(1)), []float32{1}, 1, greatest, 3)
	check(alone(1, number(1), 1), []float32{1, 1, 1}, 1, greatest, 3)
	check(few(2, 1, untold, greatest, 1), []float32{2, 0}, 1, greatest, 3)
	check(few(1, greatest), []float32{greatest}, 1.5, greatest, 3)
	check(four, []float32{1e20}, 0.5, greatest, 128)
	check(few(2, 1, 1e19, untold, 1), []float32{0, 10}, 1, greatest, 1)
	check(few(2, 1, 9, 9, 1), []float32{1, 1}, 1.9, 0, 128)
}

// gradients are the functions that solve by gradients without a root, and with one that leads
// nowhere else.
func gradients() map[string]func(a impl.Sparse, b []float32, near float32, most int64) ([]float32, int64, bool) {
	return map[string]func(a impl.Sparse, b []float32, near float32, most int64) ([]float32, int64, bool){
		"SparseGradient": impl.SparseGradient,
		"SparseWith a unit square": func(a impl.Sparse, b []float32, near float32, most int64) ([]float32, int64, bool) {
			side := min(max(a.Side, 1), impl.MaxSparse)
			return impl.SparseWith(a, alone(repeated[float32](1, int(side))...), b, near, most)
		},
	}
}

func TestSparseGradient(t *testing.T) {
	five := number(0x409fffff) // the one before 5
	cases := []struct {
		a      impl.Sparse
		b      []float32
		near   float32
		most   int64
		want   []float32
		rounds int64
	}{
		{few(1, 4), []float32{8}, 0, 3, []float32{2}, 1}, {few(1, 4), []float32{8}, minusZero, 1, []float32{2}, 1}, {few(1, 4), []float32{-8}, 0, 128, []float32{-2}, 1},
		// no round, where b is near to nothing
		{few(1, 4), []float32{8}, 8, 3, []float32{0}, 0}, {few(1, 4), []float32{8}, greatest, 0, []float32{0}, 0}, {alone(2, 3), []float32{3, 4}, 5, 0, []float32{0, 0}, 0}, {alone(2, 3), []float32{3, 4}, five, 1, []float32{number(0x3f91745d), number(0x3fc1f07c)}, 1}, {few(1, 4), []float32{0}, 0, 0, []float32{0}, 0}, {nothing(2), []float32{0, minusZero}, 0, 128, []float32{0, 0}, 0},
		{few(1, -4), []float32{minusZero}, minusZero, 3, []float32{0}, 0}, {nothing(32), repeated[float32](1, 32), 6, 128, repeated[float32](0, 32), 0}, {few(1, 4), []float32{1e-30}, 0, 3, []float32{0}, 0}, // its square is 0
		// as many rounds as are needed
		{line3(), []float32{6, 9, 4}, 1e-5, 3, []float32{number(0x3f800004), number(0x3f800006), number(0x3f800002)}, 3}, {line3(), []float32{6, 9, 4}, 1e-5, 128, []float32{number(0x3f800004), number(0x3f800006), number(0x3f800002)}, 3}, {alone(1, 2, 3, 4), []float32{1, 1, 1, 1}, 1e-4, 4, []float32{number(0x3f800001), 0.5, number(0x3eaaaaaa), 0.25}, 4}, {alone(repeated[float32](2, 32)...), repeated[float32](3, 32), 0, 1, repeated[float32](1.5, 32), 1},
		{few(2, 9, 1, untold, 8), []float32{2, 4}, number(0x32c35109), 128, []float32{number(0x3e2aaaaa), number(0x3efffffd)}, 128},
		// a row that tells nothing, or less than 0, where nothing is left to solve, and squares that are not symmetric
		{few(2, 4, untold, untold, untold), []float32{8, 0}, 0, 3, []float32{2, 0}, 1}, {alone(2, -1), []float32{1, minusZero}, 0, 3, []float32{0.5, 0}, 1}, {few(2, 1, 2, untold, 1), []float32{1, 1}, 1, 1, []float32{0.5, 0.5}, 1},
		{few(1, 1e-37), []float32{10}, 0, 3, []float32{number(0x7e96769a)}, 1},
	}
	for name, solve := range gradients() {
		for _, c := range cases {
			got, rounds, ok := solve(c.a, c.b, c.near, c.most)
			wantSolved(t, fmt.Sprint(name, " ", toldSparse(c.a), c.b, c.near, c.most), got, rounds, ok, c.want, c.rounds)
		}
	}
}

func TestSparseGradientFails(t *testing.T) {
	for name, solve := range gradients() {
		check := func(a impl.Sparse, b []float32, near float32, most int64) {
			t.Helper()
			got, rounds, ok := solve(a, b, near, most)
			wantSolved(t, fmt.Sprint(name, " ", toldSparse(a), b, near, most), got, rounds, ok, nil, 0)
		}
		four, b := few(1, 4), []float32{8}
		for _, a := range notSparse() {
			check(a, b, greatest, 0)
			check(a, []float32{1, 2}, greatest, 3)
			check(a, repeated[float32](1, 33), greatest, 3)
		}
		for _, v := range notPairs() {
			check(alone(1, 1), v, greatest, 3)
		}
		for _, near := range notNear() {
			check(four, b, near, 3)
			check(four, []float32{0}, near, 0)
		}
		for _, most := range []int64{-1, 129, math.MinInt64, math.MaxInt64, 1 << 32} {
			check(four, b, 8, most)
		}
		// too few rounds
		check(four, b, number(0x40ffffff), 0)
		check(line3(), []float32{6, 9, 4}, 1e-5, 2)
		check(alone(1, 2, 3, 4), []float32{1, 1, 1, 1}, 1e-4, 3)
		check(few(2, 9, 1, untold, 8), []float32{2, 4}, number(0x32c35109), 127)
		check(few(2, 9, 1, untold, 8), []float32{2, 4}, number(0x32c35108), 128)
		// d is not greater than 0, or not finite
		check(few(1, -4), b, 0, 3)
		check(nothing(1), b, 0, 3)
		check(few(1, 0), b, 0, 3)
		check(alone(1, -1), []float32{1, 1}, 0, 3)
		check(few(2, 0, 1, -1, 0), []float32{1, 1}, 0, 3)
		check(few(1, 1e20), []float32{1e15}, 0, 3)
		check(few(1, 1e30), []float32{1e10}, 0, 3)
		check(few(2, greatest, greatest, untold, 1), []float32{1, 1}, 0, 3)
		check(few(1, 1e-30), []float32{1e-10}, 0, 3)
		// e, or x, is not finite
		check(four, []float32{1e20}, 0, 3)
		check(few(1, number(1)), []float32{1}, 0, 3)
		check(few(1, number(1)), []float32{1}, number(0x3f7fffff), 3)
		check(few(1, 1e-38), []float32{10}, 0, 3)
		check(few(1, 1e-38), []float32{10}, 1, 3)
		check(few(1, 0x1p-126), []float32{8}, 0, 3) // nothing is left, but x is infinite
		check(few(2, 1, untold, 1e20, 1), []float32{1, 0}, 0, 1)
		check(few(2, 1, untold, 1e20, 1), []float32{1, 0}, 0, 128)
	}
	got, rounds, ok := impl.SparseGradient(few(1, 4), []float32{1e20}, greatest, 0)
	wantSolved(t, "SparseGradient, whose e is not finite", got, rounds, ok, nil, 0)
}

func TestSparseWith(t *testing.T) {
	cases := []struct {
		a, root impl.Sparse
		b       []float32
		near    float32
		most    int64
		want    []float32
		rounds  int64
	}{
		{few(1, 4), few(1, 2), []float32{8}, 0, 3, []float32{2}, 1}, {line3(), few(3, 2, untold, untold, 1, 2, untold, untold, 1, 1), []float32{6, 9, 4}, 0, 1, []float32{1, 1, 1}, 1}, {few(1, 4), few(1, 2), []float32{0}, 0, 0, []float32{0}, 0}, {nothing(2), alone(1, 1), []float32{0, minusZero}, 0, 128, []float32{0, 0}, 0},
		// near is compared with the norm of what is left, not with the root of e
		{few(1, 4), few(1, 2), []float32{8}, 5, 3, []float32{2}, 1}, {few(1, 4), few(1, 2), []float32{8}, number(0x40ffffff), 3, []float32{2}, 1}, {few(1, 4), few(1, 2), []float32{8}, 8, 3, []float32{0}, 0}, {few(1, 4), few(1, 0.5), []float32{8}, 8, 0, []float32{0}, 0},
		{few(2, 8, untold, -1, 9), alone(4, 1), []float32{2, 5}, number(0x34344fb6), 128, []float32{number(0x3e7ffffd), number(0x3f155556)}, 128},
		// the sum of the squares of what is left is infinite, but not e
		{few(1, 1e30), few(1, 1e15), []float32{1e20}, 1e19, 3, []float32{number(0x2edbe6ff)}, 1},
		// e is infinite, but there is no round
		{few(1, 1), few(1, 1e-13), []float32{1e10}, 1e10, 3, []float32{0}, 0},
		{few(2, 1, untold, 0.5, 1), alone(1, 1e-17), []float32{100, 0}, 50, 1, []float32{100, 0}, 1},
	}
	for _, c := range cases {
		got, rounds, ok := impl.SparseWith(c.a, c.root, c.b, c.near, c.most)
		wantSolved(t, fmt.Sprint("SparseWith ", toldSparse(c.a), toldSparse(c.root), c.b, c.near, c.most), got, rounds, ok, c.want, c.rounds)
	}
}

func TestSparseWithFails(t *testing.T) {
	check := func(a, root impl.Sparse, b []float32, near float32, most int64) {
		t.Helper()
		got, rounds, ok := impl.SparseWith(a, root, b, near, most)
		wantSolved(t, fmt.Sprint("SparseWith ", toldSparse(a), toldSparse(root), b, near, most), got, rounds, ok, nil, 0)
	}
	four, two, b := few(1, 4), few(1, 2), []float32{8}
	for _, a := range notSparse() {
		check(a, two, b, greatest, 0)
		check(four, a, b, greatest, 0)
		check(a, a, b, greatest, 3)
	}
	for _, root := range wrongRoots() { // also where there is no round
		check(alone(1, 1), root, []float32{1, 2}, 0, 3)
		check(alone(1, 1), root, []float32{0, 0}, 0, 0)
	}
	check(four, alone(2, 2), b, 0, 3)
	check(alone(4, 4), two, []float32{8, 8}, 0, 3)
	check(alone(4, 4), two, []float32{8}, 0, 3)
	check(four, two, b, number(0x40ffffff), 0)
	check(few(2, 8, untold, -1, 9), alone(4, 1), []float32{2, 5}, number(0x34344fb6), 127)
	check(few(2, 8, untold, -1, 9), alone(4, 1), []float32{2, 5}, number(0x34344fb5), 128)
	// what the root is to solve becomes infinite: at first, and in the last round
	check(four, few(1, 1e-20), b, greatest, 0)
	check(few(2, 1, untold, 0.5, 1), alone(1, 1e-20), []float32{100, 0}, 50, 1)
	// e is infinite: in the first round, and behind the last one
	check(few(1, 1), few(1, 1e-13), []float32{1e10}, 1e9, 3)
	check(few(2, 1, untold, 0.5, 1), alone(1, 1e-18), []float32{100, 0}, 50, 1)
	// the sum of the squares of what is left is infinite, and no round is left
	check(few(1, 1e30), few(1, 1e15), []float32{1e20}, greatest, 0)
	// e is 0, and brings nothing
	check(few(1, 1e38), few(1, 1e10), []float32{1e-20}, 0, 128)
}
