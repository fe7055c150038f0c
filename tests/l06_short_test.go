package tests

import (
	"fmt"
	"math"
	"testing"

	"loop.example/g01327/impl"
)

func wantShort(t *testing.T, w impl.Whole, steps int64, want impl.Whole, made int64) {
	t.Helper()
	got, count, ok := impl.ShortRows(w, steps)
	what := fmt.Sprint("ShortRows ", toldWhole(w), " in ", steps)
	wantWhole(t, what, got, ok, want)
	wantInteger(t, "steps of "+what, count, ok, made)
}

func TestShortRows(t *testing.T) {
	cases := []struct {
		w     impl.Whole
		steps int64
		want  impl.Whole
		made  int64
	}{
		{integers(2, 2, 1, 0, 5, 1), 9, integers(2, 2, 1, 0, 0, 1), 1}, {integers(3, 3, 1, 1, 1, -1, 0, 2, 3, 5, 6), 1000, integers(3, 3, 0, 1, 0, 1, 0, 1, -2, 0, 1), 5}, {integers(2, 2, 3, 0, 1, 2), 9, integers(2, 2, 1, 2, 2, -2), 2}, {integers(2, 2, 97, 1, 100, 0), 1000, integers(2, 2, 3, -1, 10, 30), 2}, {integers(4, 4, 100, 0, 0, 1, 0, 100, 0, 37, 0, 0, 100, 61, 0, 0, 0, 100), 1000, integers(4, 4, 100, 0, 0, 1, 0, 100, 0, 37, 0, 0, 0, 100, 0, 0, 100, -39), 5}, {integers(4, 4, 1, 0, 0, 10, 0, 1, 0, 37, 0, 0, 1, 61, 0, 0, 0, 100), 1000, integers(4, 4, 0, -1, -1, 2, 1, -3, 0, -1, -2, 0, 2, 2, -4, 0, -1, -1), 14}, {integers(4, 6, 12, -35, 77, 100, -100, 3, 45, -99, 98, 1, 0, 7, -88, 11, 13, 17, 19, 23, 50, 50, -50, -50, 51, 49), 1000, integers(4, 6, -88, 11, 13, 17, 19, 23, 50, 50, -50, -50, 51, 49, 62, 15, 27, 50, -49, 52, 7, -38, 61, -32, 70, 79), 14}, {integers(4, 4, 99, 98, 97, 96, 100, 99, 98, 97, 98, 97, 96, 94, 97, 97, 95, 96), 1000, integers(4, 4, 0, 0, 0, -1, 0, 1, 0, 0, 1, 0, -1, 0, 1, 0, 1, 0), 13}, {integers(3, 6, 1, 2, 3, 4, 5, 6, 7, 8, 9, 10, 11, 12, 13, 14, 15, 16, 17, 19), 1000, integers(3, 6, 0, 0, 0, 0, 0, 1, -4, -2, 0, 2, 4, 0, 5, 4, 3, 2, 1, 0), 8}, {integers(2, 6, 1, 2, 3, 4, 5, 6, 7, 8, 9, 10, 11, 12), 1000, integers(2, 6, 5, 4, 3, 2, 1, 0, -4, -2, 0, 2, 4, 6), 2}, {integers(4, 4, 100, 100, 100, 100, 100, -100, 100, -100, 100, 100, -100, -100, 100, -100, -100, 100), 1000, integers(4, 4, 100, 100, 100, 100, 100, -100, 100, -100, 100, 100, -100, -100, 100, -100, -100, 100), 3},
		// no step is made with one row, or with 0 steps, also where nothing is left of a row
		{integers(1, 1, 0), 9, integers(1, 1, 0), 0}, {integers(1, 1, 0), 1000, integers(1, 1, 0), 0}, {integers(1, 1, 0), 0, integers(1, 1, 0), 0}, {allOf(1, 6, 0), 1, allOf(1, 6, 0), 0}, {integers(1, 6, 100, -100, 0, 0, 1, 2), 5, integers(1, 6, 100, -100, 0, 0, 1, 2), 0}, {integers(2, 2, 1, 2, 2, 4), 0, integers(2, 2, 1, 2, 2, 4), 0}, {allOf(4, 4, 0), 0, allOf(4, 4, 0), 0}, {allOf(4, 6, 100), 0, allOf(4, 6, 100), 0}, {integers(2, 2, 1, 0, 5, 1), 0, integers(2, 2, 1, 0, 5, 1), 0},
		// as many steps as there may be, and fewer
		{integers(2, 2, 100, 99, 99, 98), 1, integers(2, 2, -1, -1, 100, 99), 1}, {integers(2, 2, 100, 99, 99, 98), 2, integers(2, 2, 1, 0, -1, -1), 2}, {integers(2, 2, 100, 99, 99, 98), 3, integers(2, 2, 1, 0, 0, -1), 3}, {integers(2, 2, 100, 99, 99, 98), 4, integers(2, 2, 1, 0, 0, -1), 3}, {integers(3, 3, 1, 0, 0, 0, 1, 0, 0, 0, 1), 1, integers(3, 3, 1, 0, 0, 0, 1, 0, 0, 0, 1), 1}, {integers(3, 3, 1, 0, 0, 0, 1, 0, 0, 0, 1), 2, integers(3, 3, 1, 0, 0, 0, 1, 0, 0, 0, 1), 2}, {integers(3, 3, 1, 0, 0, 0, 1, 0, 0, 0, 1), 3, integers(3, 3, 1, 0, 0, 0, 1, 0, 0, 0, 1), 2}, {integers(3, 3, 0, 0, 3, 0, 2, 0, 1, 0, 0), 1, integers(3, 3, 0, 2, 0, 0, 0, 3, 1, 0, 0), 1}, {integers(3, 3, 0, 0, 3, 0, 2, 0, 1, 0, 0), 2, integers(3, 3, 0, 2, 0, 0, 0, 3, 1, 0, 0), 2}, {integers(3, 3, 0, 0, 3, 0, 2, 0, 1, 0, 0), 3, integers(3, 3, 0, 2, 0, 1, 0, 0, 0, 0, 3), 3}, {integers(3, 3, 0, 0, 3, 0, 2, 0, 1, 0, 0), 4, integers(3, 3, 1, 0, 0, 0, 2, 0, 0, 0, 3), 4}, {integers(3, 3, 0, 0, 3, 0, 2, 0, 1, 0, 0), 5, integers(3, 3, 1, 0, 0, 0, 2, 0, 0, 0, 3), 5}, {integers(3, 3, 0, 0, 3, 0, 2, 0, 1, 0, 0), 6, integers(3, 3, 1, 0, 0, 0, 2, 0, 0, 0, 3), 6}, {integers(3, 3, 0, 0, 3, 0, 2, 0, 1, 0, 0), 7, integers(3, 3, 1, 0, 0, 0, 2, 0, 0, 0, 3), 6},
		// halves: m is 0.5, which becomes -0.5, or -0.5, which stays
		{integers(2, 3, 2, 0, 0, 1, 1, 1), 9, integers(2, 3, 2, 0, 0, -1, 1, 1), 1}, {integers(2, 3, 2, 0, 0, -1, 1, 1), 9, integers(2, 3, 2, 0, 0, -1, 1, 1), 1}, {integers(2, 2, 2, 0, 3, 9), 9, integers(2, 2, 2, 0, -1, 9), 1}, {integers(2, 2, 2, 0, -3, 9), 9, integers(2, 2, 2, 0, -1, 9), 1}, {integers(3, 3, 2, 0, 0, 0, 2, 0, 1, 1, 9), 9, integers(3, 3, 2, 0, 0, 0, 2, 0, -1, -1, 9), 2}, {integers(3, 3, 2, 0, 0, 0, 2, 0, -1, -1, 9), 9, integers(3, 3, 2, 0, 0, 0, 2, 0, -1, -1, 9), 2},
		// the sum of the squares is equal to its bound, or less
		{integers(2, 4, 2, 0, 0, 0, 0, 1, 1, 1), 9, integers(2, 4, 2, 0, 0, 0, 0, 1, 1, 1), 1}, {integers(2, 4, 2, 0, 0, 0, 0, 1, 1, 0), 9, integers(2, 4, 0, 1, 1, 0, 2, 0, 0, 0), 2}, {integers(2, 3, 2, 0, 0, -1, 1, 0), 9, integers(2, 3, -1, 1, 0, 1, 1, 0), 2}, {integers(2, 3, 2, 0, 0, 1, 1, 0), 9, integers(2, 3, -1, 1, 0, 1, 1, 0), 2},
		// rows that depend on one another, of which the rounding leaves something
		{integers(3, 4, 4, -7, 3, -3, -7, 9, -5, -4, 15, -23, 11, -2), 1, integers(3, 4, 4, -7, 3, -3, -3, 2, -2, -7, 15, -23, 11, -2), 1}, {integers(4, 5, 9, -8, -6, 3, -2, 9, -32, 7, -1, 11, 9, 9, -7, 2, -6, 9, 2, 5, -3, 3), 7, integers(4, 5, 9, 2, 5, -3, 3, 9, -8, -6, 3, -2, 9, 9, -7, 2, -6, 9, 2, 5, -3, 3), 7}, {integers(4, 5, -9, 4, -6, -3, -2, -15, 28, -22, 16, 16, 0, -6, 7, -8, -9, 3, 8, 4, 6, 2), 3, integers(4, 5, -9, 4, -6, -3, -2, 0, -6, 7, -8, -9, 3, 20, -10, 22, 20, 3, 8, 4, 6, 2), 3}, {integers(4, 4, -6, 3, 7, 2, 28, -2, 12, 24, -4, -1, -9, -8, -4, -1, -4, -6), 11, integers(4, 4, 4, 1, -1, 4, -2, 4, -4, 2, 0, 0, -5, -2, -2, 4, 6, 6), 11}, {integers(3, 4, 3, 0, -9, 2, -4, 10, 32, -20, -1, -5, -7, 8), 1, integers(3, 4, 3, 0, -9, 2, 8, 10, -4, -12, -1, -5, -7, 8), 1}, {integers(3, 3, -2, -5, -6, -6, 6, 5, 8, -22, -22), 1, integers(3, 3, -2, -5, -6, -8, 1, -1, 8, -22, -22), 1}, {integers(3, 4, -4, 0, 12, 5, 6, -2, -8, -7, -8, 4, 4, 9), 2, integers(3, 4, 2, -2, 4, -2, -6, 2, 8, 7, -8, 4, 4, 9), 2}, {integers(3, 5, -24, 4, -14, 22, -34, -4, 1, -5, 2, -8, 8, -1, 2, -9, 9), 5, integers(3, 5, -4, 0, 3, 7, -1, -4, 1, -5, 2, -8, -8, 0, 6, 14, -2), 5}, {integers(3, 4, 9, 4, -9, 8, 4, -3, 7, -3, 9, 4, -9, 8), 1, integers(3, 4, 4, -3, 7, -3, 9, 4, -9, 8, 9, 4, -9, 8), 1},
	}
	for _, c := range cases {
		wantShort(t, c.w, c.steps, c.want, c.made)
	}
}

func TestShortRowsFails(t *testing.T) {
	check := func(w impl.Whole, steps int64) {
		t.Helper()
		got, made, ok := impl.ShortRows(w, steps)
		what := fmt.Sprint("ShortRows ", toldWhole(w), " in ", steps)
		wantNoWhole(t, what, got, ok)
		wantNoInteger(t, "steps of "+what, made, ok)
	}
	for _, w := range notLow() {
		check(w, 0)
		check(w, 9)
	}
	// more than 4 rows, or more rows than columns
	for _, w := range []impl.Whole{inMiddle(1, 1, 1, 1, 1), inMiddle(1, 1, 1, 1, 1, 1), integers(2, 1, 1, 2), integers(3, 2, 1, 0, 0, 1, 1, 1), integers(4, 3, 1, 0, 0, 0, 1, 0, 0, 0, 1, 1, 1, 1), allOf(5, 6, 1)} {
		check(w, 0)
		check(w, 9)
	}
	for _, steps := range []int64{-1, 1001, 1 << 32, math.MaxInt64, math.MinInt64} {
		check(integers(2, 2, 1, 0, 5, 1), steps)
		check(integers(1, 1, 3), steps)
	}
	// nothing is left of a row, at first or behind some steps
	check(integers(2, 2, 1, 2, 2, 4), 1)
	check(integers(2, 2, 0, 0, 1, 2), 1)
	check(integers(2, 2, 1, 2, 0, 0), 1)
	check(integers(2, 2, 0, 0, 0, 0), 1000)
	check(integers(3, 3, 1, 0, 0, 0, 1, 0, 0, 0, 0), 1)
	check(integers(3, 3, 1, 0, 0, 0, 0, 0, 0, 0, 1), 1)
	check(integers(4, 4, 1, 0, 0, 0, 0, 1, 0, 0, 0, 0, 1, 0, 1, 1, 1, 0), 1)
	check(allOf(4, 6, 100), 1000)
	check(integers(2, 2, 2, 4, 3, 6), 1000)
	check(integers(3, 4, 4, -7, 3, -3, -7, 9, -5, -4, 15, -23, 11, -2), 2)
	check(integers(4, 4, -6, 3, 7, 2, 28, -2, 12, 24, -4, -1, -9, -8, -4, -1, -4, -6), 1000)
	check(integers(3, 4, 9, 4, -9, 8, 4, -3, 7, -3, 9, 4, -9, 8), 2)
	check(integers(2, 3, 3, 5, 7, 6, 10, 14), 1)
}

func TestShortestOf(t *testing.T) {
	cases := []struct {
		w       impl.Whole
		reach   int64
		want    []int64
		squares int64
	}{
		{integers(2, 2, 2, 0, 3, 1), 1, []int64{1, 1}, 2}, {integers(1, 1, 5), 1, []int64{-5}, 25}, {integers(1, 1, 5), 3, []int64{-5}, 25}, {integers(1, 1, -5), 2, []int64{5}, 25}, {integers(2, 1, 5, 7), 1, []int64{2}, 4}, {integers(2, 1, 5, 7), 2, []int64{2}, 4}, {integers(2, 1, 5, 7), 3, []int64{-1}, 1}, {integers(1, 6, 100, -100, 0, 0, 1, 2), 3, []int64{-100, 100, 0, 0, -1, -2}, 20005}, {integers(3, 3, 1, 1, 1, -1, 0, 2, 3, 5, 6), 1, []int64{-1, -1, -1}, 3}, {integers(3, 3, 1, 1, 1, -1, 0, 2, 3, 5, 6), 3, []int64{-1, -1, -1}, 3}, {integers(4, 4, 99, 98, 97, 96, 100, 99, 98, 97, 98, 97, 96, 94, 97, 97, 95, 96), 1, []int64{1, 1, 1, 1}, 4}, {integers(4, 4, 99, 98, 97, 96, 100, 99, 98, 97, 98, 97, 96, 94, 97, 97, 95, 96), 2, []int64{0, 0, 0, -1}, 1}, {integers(4, 4, 99, 98, 97, 96, 100, 99, 98, 97, 98, 97, 96, 94, 97, 97, 95, 96), 3, []int64{0, 0, 0, -1}, 1}, {integers(4, 6, 12, -35, 77, 100, -100, 3, 45, -99, 98, 1, 0, 7, -88, 11, 13, 17, 19, 23, 50, 50, -50, -50, 51, 49), 3, []int64{88, -11, -13, -17, -19, -23}, 9213},
		// the first one of several with equal sums of squares
		{integers(2, 1, 2, 3), 1, []int64{1}, 1}, {integers(2, 1, 2, 3), 2, []int64{-1}, 1}, {integers(2, 2, 1, 0, 0, 1), 1, []int64{-1, 0}, 1}, {integers(2, 2, 1, 0, 0, 1), 3, []int64{-1, 0}, 1}, {integers(2, 2, 0, 1, 1, 0), 1, []int64{0, -1}, 1}, {integers(3, 1, 6, 10, 15), 1, []int64{-1}, 1}, {integers(3, 1, 6, 10, 15), 2, []int64{-1}, 1}, {integers(4, 1, 100, 99, 97, 91), 1, []int64{-1}, 1}, {integers(4, 1, 100, 99, 97, 91), 3, []int64{-1}, 1}, {integers(3, 2, 4, 0, 0, 4, 2, 2), 1, []int64{-2, -2}, 8}, {integers(4, 4, 100, 100, 100, 100, 100, -100, 100, -100, 100, 100, -100, -100, 100, -100, -100, 100), 2, []int64{-100, -100, -100, -100}, 40000},
		// rows that depend on one another, and rows of 0: a sum that is 0 does not count
		{integers(2, 1, 4, -4), 1, []int64{-4}, 16}, {integers(2, 2, 0, 0, 3, 4), 1, []int64{-3, -4}, 25}, {integers(2, 2, 3, 4, 0, 0), 2, []int64{-3, -4}, 25}, {integers(2, 2, 1, 2, 2, 4), 1, []int64{-1, -2}, 5}, {integers(2, 2, 2, 4, 1, 2), 2, []int64{-1, -2}, 5}, {integers(4, 2, 0, 0, 0, 0, 0, 0, 0, -7), 3, []int64{0, 7}, 49}, {integers(4, 2, 0, 0, 6, 0, 0, 0, 0, -7), 3, []int64{-6, 0}, 36}, {allOf(4, 6, 100), 3, []int64{-100, -100, -100, -100, -100, -100}, 60000}, {allOf(4, 6, -100), 1, []int64{100, 100, 100, 100, 100, 100}, 60000}, {integers(4, 1, 1, 1, 1, 1), 1, []int64{-1}, 1},
	}
	for _, c := range cases {
		got, squares, ok := impl.ShortestOf(c.w, c.reach)
		wantOrder(t, fmt.Sprint("ShortestOf ", toldWhole(c.w), c.reach), got, squares, ok, c.want, c.squares)
	}
}

func TestShortestOfFails(t *testing.T) {
	check := func(w impl.Whole, reach int64) {
		t.Helper()
		got, squares, ok := impl.ShortestOf(w, reach)
		what := fmt.Sprint("ShortestOf ", toldWhole(w), reach)
		wantNothing(t, what, got, ok)
		wantNoInteger(t, "squares of "+what, squares, ok)
	}
	for _, w := range notLow() {
		check(w, 1)
		check(w, 3)
	}
	for _, w := range []impl.Whole{allOf(5, 1, 1), inMiddle(1, 1, 1, 1, 1), allOf(6, 6, 1)} { // more than 4 rows
		check(w, 1)
	}
	for _, reach := range []int64{0, -1, -3, 4, 5, 1 << 32, math.MaxInt64, math.MinInt64} {
		check(integers(1, 1, 5), reach)
	}
	for reach := range int64(4) { // all sums are 0
		check(integers(1, 1, 0), reach)
		check(allOf(4, 6, 0), reach)
	}
}
