package tests

import (
	"fmt"
	"math"
	"slices"
	"testing"

	"loop.example/g01327/impl"
)

// joined returns the square that tells x at pairs of a row and a column.
func joined(side int64, x float32, pairs ...[2]int64) impl.Sparse {
	return fewAt(side, x, func(i, k int64) bool { return slices.Contains(pairs, [2]int64{i, k}) })
}

// graphRow has what is told of a square by its neighbours alone.
type graphRow struct {
	name                                  string
	a                                     impl.Sparse
	degrees, breadth, least, tree, counts []int64
	all                                   int64
}

func graphRows() []graphRow {
	line := sequence(0, 32)
	return []graphRow{
		{"one row", nothing(1), []int64{0}, []int64{0}, []int64{0}, []int64{-1}, []int64{1}, 1},
		{"one row of one number", few(1, 5), []int64{0}, []int64{0}, []int64{0}, []int64{-1}, []int64{1}, 1},
		{"no neighbours", nothing(3), []int64{0, 0, 0}, []int64{2, 1, 0}, []int64{0, 1, 2}, []int64{-1, -1, -1}, []int64{1, 1, 1}, 3},
		{"a middle alone", few(2, 1, untold, untold, 0), []int64{0, 0}, []int64{1, 0}, []int64{0, 1}, []int64{-1, -1}, []int64{1, 1}, 2},
		{"a chain, with numbers on both sides", few(3, 4, 2, untold, 2, 5, 2, untold, 2, 2), []int64{1, 2, 1}, []int64{2, 1, 0}, []int64{0, 1, 2}, []int64{1, 2, -1}, []int64{2, 2, 1}, 5},
		{"a chain, with 0 on one side", few(3, untold, 0, untold, untold, untold, untold, untold, minusZero, untold), []int64{1, 2, 1}, []int64{2, 1, 0}, []int64{0, 1, 2}, []int64{1, 2, -1}, []int64{2, 2, 1}, 5},
		{"a star with its centre first", joined(4, 1, [2]int64{0, 1}, [2]int64{2, 0}, [2]int64{0, 3}), []int64{3, 1, 1, 1}, []int64{3, 2, 0, 1}, []int64{1, 2, 0, 3}, []int64{1, 2, 3, -1}, []int64{4, 3, 2, 1}, 10},
		{"a star with its centre last", joined(4, 0, [2]int64{3, 0}, [2]int64{3, 1}, [2]int64{3, 2}), []int64{1, 1, 1, 3}, []int64{2, 1, 3, 0}, []int64{0, 1, 2, 3}, []int64{3, 3, 3, -1}, []int64{2, 2, 2, 1}, 7},
		{"pairs that are apart", joined(4, 1, [2]int64{0, 3}, [2]int64{2, 1}), []int64{1, 1, 1, 1}, []int64{2, 1, 3, 0}, []int64{0, 3, 1, 2}, []int64{3, 2, -1, -1}, []int64{2, 2, 1, 1}, 6},
		{"a ring", joined(5, 1, [2]int64{0, 1}, [2]int64{1, 2}, [2]int64{2, 3}, [2]int64{3, 4}, [2]int64{4, 0}), []int64{2, 2, 2, 2, 2}, []int64{3, 2, 4, 1, 0}, []int64{0, 1, 2, 3, 4}, []int64{1, 2, 3, 4, -1}, []int64{3, 3, 3, 2, 1}, 12},
		{"two chains and a row alone", joined(7, -1, [2]int64{5, 1}, [2]int64{1, 3}, [2]int64{0, 6}, [2]int64{6, 4}), []int64{1, 2, 0, 1, 1, 1, 2}, []int64{5, 1, 3, 4, 6, 0, 2}, []int64{2, 0, 3, 1, 5, 4, 6}, []int64{6, 3, -1, 5, 6, -1, -1}, []int64{2, 3, 1, 2, 2, 1, 1}, 12},
		{"neighbours by degrees", joined(7, 1, [2]int64{0, 3}, [2]int64{3, 1}, [2]int64{3, 2}, [2]int64{1, 4}, [2]int64{1, 5}, [2]int64{2, 6}), []int64{1, 3, 2, 3, 1, 1, 1}, []int64{5, 4, 6, 1, 2, 3, 0}, []int64{0, 4, 5, 1, 3, 2, 6}, []int64{3, 3, 3, 4, 5, 6, -1}, []int64{2, 4, 3, 4, 3, 2, 1}, 19},
		{"a fan", joined(6, 1, [2]int64{0, 1}, [2]int64{0, 2}, [2]int64{0, 3}, [2]int64{1, 4}, [2]int64{2, 5}, [2]int64{3, 5}, [2]int64{3, 4}), []int64{3, 2, 2, 3, 2, 2}, []int64{5, 2, 3, 0, 4, 1}, []int64{1, 2, 4, 0, 3, 5}, []int64{1, 2, 3, 4, 5, -1}, []int64{4, 4, 4, 3, 2, 1}, 18},
		{"a cube", joined(8, 1, [2]int64{0, 1}, [2]int64{1, 3}, [2]int64{3, 2}, [2]int64{2, 0}, [2]int64{4, 5}, [2]int64{5, 7}, [2]int64{7, 6}, [2]int64{6, 4}, [2]int64{0, 4}, [2]int64{1, 5}, [2]int64{2, 6}, [2]int64{3, 7}), repeated[int64](3, 8), []int64{7, 6, 5, 3, 4, 2, 1, 0}, []int64{0, 3, 5, 1, 2, 4, 6, 7}, []int64{1, 2, 3, 4, 5, 6, 7, -1}, []int64{4, 5, 5, 5, 4, 3, 2, 1}, 29},
		{"32 rows alone", fewAt(32, 1, func(i, k int64) bool { return i == k }), repeated[int64](0, 32), reversed(line), line, repeated[int64](-1, 32), repeated[int64](1, 32), 32},
		{"a star of 32 rows", whole(32, 1, 1), append([]int64{31}, repeated[int64](1, 31)...), append(reversed(sequence(2, 32)), 0, 1), append(sequence(1, 31), 0, 31), append(sequence(1, 32), -1), reversed(sequence(1, 33)), 528},
		{"32 neighbours in 496 places", fewAt(32, 0, func(i, k int64) bool { return i < k }), repeated[int64](31, 32), reversed(line), line, append(sequence(1, 32), -1), reversed(sequence(1, 33)), 528},
		{"32 neighbours in 512 places", fewAt(32, 1, func(i, k int64) bool { return i < k || i == k && i < 16 }), repeated[int64](31, 32), reversed(line), line, append(sequence(1, 32), -1), reversed(sequence(1, 33)), 528},
	}
}

func reversed(list []int64) []int64 {
	list = slices.Clone(list)
	slices.Reverse(list)
	return list
}

// graphOrders are the functions of a square that return a list of its rows.
func graphOrders() map[string]func(impl.Sparse) ([]int64, bool) {
	return map[string]func(impl.Sparse) ([]int64, bool){"SparseDegrees": impl.SparseDegrees, "SparseBreadth": impl.SparseBreadth, "SparseLeast": impl.SparseLeast, "SparseTree": impl.SparseTree}
}

func TestExampleOfDegrees(t *testing.T) {
	a, ok := impl.SparseFrom(3, []impl.Entry{entry(0, 1, 1), entry(2, 1, 1)})
	wantBool(t, "SparseFrom", ok, true)
	got, ok := impl.SparseDegrees(a)
	wantOrder(t, "SparseDegrees of a chain", got, 0, ok, []int64{1, 2, 1}, 0)
}

func TestSparseOrders(t *testing.T) {
	for _, r := range graphRows() {
		flip, ok := impl.SparseFlip(r.a)
		wantBool(t, "SparseFlip", ok, true)
		for _, a := range []impl.Sparse{r.a, flip} { // neighbours are what they are on both sides
			for name, list := range map[string][]int64{"SparseDegrees": r.degrees, "SparseBreadth": r.breadth, "SparseLeast": r.least, "SparseTree": r.tree} {
				got, ok := graphOrders()[name](a)
				wantOrder(t, name+" of "+r.name, got, 0, ok, list, 0)
			}
			counts, all, ok := impl.SparseFill(a)
			wantOrder(t, "SparseFill of "+r.name, counts, all, ok, r.counts, r.all)
		}
	}
}

func TestSparseOrdersFail(t *testing.T) {
	for _, a := range notSparse() {
		for name, f := range graphOrders() {
			got, ok := f(a)
			wantNothing(t, name+" "+toldSparse(a), got, ok)
		}
		counts, all, ok := impl.SparseFill(a)
		wantNothing(t, "SparseFill "+toldSparse(a), counts, ok)
		wantBool(t, "SparseFill of nothing", all == 0, true)
	}
}

func TestSparseOrder(t *testing.T) {
	a := few(3, 4, 2, untold, 2, 5, 2, untold, 2, 2)
	b := few(3, 1, minusZero, untold, untold, untold, 6, 7, untold, 0)
	unit := fewAt(32, 4, func(i, k int64) bool { return i == k })
	cases := []struct {
		a    impl.Sparse
		list []int64
		want impl.Sparse
	}{
		{a, []int64{2, 1, 0}, few(3, 2, 2, untold, 2, 5, 2, untold, 2, 4)}, {a, []int64{0, 1, 2}, a}, {few(1, 5), []int64{0}, few(1, 5)}, {nothing(2), []int64{1, 0}, nothing(2)}, {few(2, 1, 2, 3, 4), []int64{1, 0}, few(2, 4, 3, 2, 1)},
		{b, []int64{1, 2, 0}, few(3, untold, 6, untold, untold, 0, 7, minusZero, untold, 1)}, {b, []int64{2, 0, 1}, few(3, 0, 7, untold, untold, 1, minusZero, 6, untold, untold)},
		{unit, append(sequence(7, 32), sequence(0, 7)...), unit}, {whole(32, 16, 1), append(sequence(16, 32), sequence(0, 16)...), fewAt(32, 1, func(i, k int64) bool { return i >= 16 })},
		{joined(32, 9, [2]int64{31, 0}), append([]int64{31}, sequence(0, 31)...), joined(32, 9, [2]int64{0, 1})}, {nothing(13), reversed(sequence(0, 13)), nothing(13)},
	}
	for _, c := range cases {
		got, ok := impl.SparseOrder(c.a, c.list)
		wantSparse(t, fmt.Sprint("SparseOrder ", toldSparse(c.a), c.list), got, ok, c.want)
	}
}

func TestSparseOrderFails(t *testing.T) {
	check := func(a impl.Sparse, list ...int64) {
		t.Helper()
		got, ok := impl.SparseOrder(a, list)
		wantNoSparse(t, fmt.Sprint("SparseOrder ", toldSparse(a), list), got, ok)
	}
	for _, a := range notSparse() {
		check(a)
		check(a, 0)
		check(a, 0, 1)
		check(a, 0, 1, 2)
		check(a, sequence(0, 32)...)
		check(a, sequence(0, 33)...)
	}
	for _, list := range append(notOrders(), []int64{0}, []int64{0, 1}, []int64{0, 1, 2, 3}) {
		check(nothing(3), list...)
	}
	// a row is missing, or there twice
	check(nothing(3), 0, 0, 1)
	check(nothing(3), 1, 2, 1)
	check(nothing(3), 0, 1, 3)
	check(nothing(3), 0, 1, -1)
	check(nothing(3), math.MaxInt64, 1, 2)
	check(nothing(3), 0, math.MinInt64, 2)
	check(nothing(32), append(sequence(0, 31), 30)...)
	check(nothing(32), append(sequence(0, 31), 32)...)
	check(nothing(32), sequence(0, 31)...)
	check(nothing(32), sequence(0, 33)...)
	check(nothing(32), sequence(1, 33)...)
}
