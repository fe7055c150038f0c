package tests

import (
	"fmt"
	"math"
	"slices"
	"testing"

	"loop.example/g01327/impl"
)

// greatDet is a low square of 6 rows with the greatest determinant.
func greatDet() impl.Whole {
	w := integers(6, 6, 1, 1, -1, 1, -1, -1, 1, -1, 1, 1, -1, 1, -1, -1, -1, 1, 1, 1, -1, 1, -1, -1, -1, 1, 1, -1, -1, -1, -1, -1, -1, -1, 1, 1, -1, -1)
	for i := range w.Numbers {
		w.Numbers[i] *= impl.MaxDigit
	}
	return w
}

// detRow has a low square, its determinant and its characters.
type detRow struct {
	w          impl.Whole
	det        int64
	characters []int64
}

func detRows() []detRow {
	return []detRow{
		{integers(1, 1, 5), 5, []int64{-5}}, {integers(1, 1, -100), -100, []int64{100}}, {integers(1, 1, 0), 0, []int64{0}}, {integers(2, 2, 1, 2, 3, 4), -2, []int64{-5, -2}}, {integers(2, 2, 0, 1, 1, 0), -1, []int64{0, -1}}, {integers(2, 2, 0, -1, 1, 0), 1, []int64{0, 1}}, {integers(2, 2, 1, 2, 2, 4), 0, []int64{-5, 0}}, {integers(2, 2, 100, -100, 100, 100), 20000, []int64{-200, 20000}},
		{integers(3, 3, 2, 0, 1, -1, 3, 0, 4, 1, -2), -25, []int64{-3, -8, 25}}, {integers(3, 3, 74, -76, -51, 44, 41, 79, -65, -63, 37), 1000001, []int64{-152, 12295, -1000001}}, {integers(3, 3, 0, 0, 2, 0, 3, 0, 4, 0, 0), -24, []int64{-3, -8, 24}}, {integers(3, 3, 1, 2, 3, 4, 5, 6, 7, 8, 9), 0, []int64{-15, -18, 0}}, {inMiddle(100, 100, 100), 1000000, []int64{-300, 30000, -1000000}}, {allOf(3, 3, 7), 0, []int64{-21, 0, 0}},
		{integers(4, 4, 2, 1, 0, -1, 0, 3, 5, 2, 1, 1, 1, 1, -4, 0, 2, 6), 12, []int64{-12, 36, -5, 12}}, {inMiddle(1, 2, 3, 4), 24, []int64{-10, 35, -50, 24}}, {integers(4, 4, 0, 0, 0, 0, 1, 2, 3, 4, 5, 6, 7, 8, 9, 10, 11, 13), 0, []int64{-22, -15, 4, 0}}, {integers(4, 4, 0, 1, 2, 4, 0, 5, 1, 3, 0, 2, 2, 9, 0, 7, 7, 7), 0, []int64{-14, -27, 196, 0}}, // rows and columns of 0
		{integers(5, 5, 1, 2, 3, 4, 5, 0, -1, 2, 0, 3, 4, 4, 0, 1, -2, 2, 2, 2, 1, 1, -3, 0, 5, 6, 7), 42, []int64{-8, -5, -67, -215, -42}}, {allOf(5, 5, 100), 0, []int64{-500, 0, 0, 0, 0}},
		{integers(6, 6, 2, -1, 0, 3, 5, -7, 4, 4, 1, -2, 0, 9, 0, 0, 3, 1, 1, 1, -8, 2, 6, 5, -3, 1, 1, 1, 1, 1, 2, 2, 9, -4, 0, 7, 3, -5), 13403, []int64{-11, 128, -1704, 9495, -18705, 13403}}, {inMiddle(1, 1, 1, 1, 1, 1), 1, []int64{-6, 15, -20, 15, -6, 1}}, {allOf(6, 6, 0), 0, []int64{0, 0, 0, 0, 0, 0}},
		{greatDet(), 160000000000000, []int64{400, 20000, -12000000, 800000000, 1120000000000, 160000000000000}}, {inMiddle(100, 100, 100, 100, 100, -100), -1000000000000, []int64{-400, 50000, 0, -500000000, 40000000000, -1000000000000}},
	}
}

func TestDetOfWhole(t *testing.T) {
	for _, r := range detRows() {
		got, ok := impl.DetOfWhole(r.w)
		wantInteger(t, "DetOfWhole "+toldWhole(r.w), got, ok, r.det)
	}
	for _, w := range notLowSquares() {
		got, ok := impl.DetOfWhole(w)
		wantNoInteger(t, "DetOfWhole "+toldWhole(w), got, ok)
	}
}

func TestCharactersOf(t *testing.T) {
	for _, r := range detRows() {
		got, ok := impl.CharactersOf(r.w)
		wantIntegers(t, "CharactersOf "+toldWhole(r.w), got, ok, r.characters...)
	}
	for _, w := range notLowSquares() {
		got, ok := impl.CharactersOf(w)
		wantNothing(t, "CharactersOf "+toldWhole(w), got, ok)
	}
}

func TestMinorOfWhole(t *testing.T) {
	a := integers(2, 2, 1, 2, 3, 4)
	b := integers(3, 4, 1, -2, 3, 4, 5, 6, 7, -8, 9, 10, 11, 13)
	cases := []struct {
		w             impl.Whole
		rows, columns []int64
		want          int64
	}{
		{a, []int64{1}, []int64{0}, 3}, {a, []int64{0}, []int64{0}, 1}, {a, []int64{0}, []int64{1}, 2}, {a, []int64{1}, []int64{1}, 4}, {a, []int64{0, 1}, []int64{0, 1}, -2}, {integers(1, 1, -5), []int64{0}, []int64{0}, -5},
		{b, []int64{0, 1}, []int64{0, 1}, 16}, {b, []int64{0, 1}, []int64{2, 3}, -52}, {b, []int64{1, 2}, []int64{0, 3}, 137}, {b, []int64{0, 2}, []int64{1, 2}, -52}, {b, []int64{0, 1, 2}, []int64{0, 1, 3}, 416}, {b, []int64{0, 1, 2}, []int64{1, 2, 3}, -848}, {b, []int64{2}, []int64{3}, 13},
		{allOf(6, 6, 100), []int64{2, 5}, []int64{0, 4}, 0}, {inMiddle(1, 2, 3, 4, 5, 6), []int64{0, 2, 4}, []int64{0, 2, 4}, 15}, {inMiddle(1, 2, 3, 4, 5, 6), []int64{1, 3, 5}, []int64{1, 3, 4}, 0}, {inMiddle(1, 2, 3, 4, 5, 6), sequence(1, 6), sequence(1, 6), 720},
		{greatDet(), sequence(0, 6), sequence(0, 6), 160000000000000}, {integers(1, 6, 1, 2, 3, 4, 5, 6), []int64{0}, []int64{5}, 6}, {integers(6, 1, 1, 2, 3, 4, 5, 6), []int64{5}, []int64{0}, 6},
	}
	for _, c := range cases {
		got, ok := impl.MinorOfWhole(c.w, c.rows, c.columns)
		wantInteger(t, fmt.Sprint("MinorOfWhole ", toldWhole(c.w), c.rows, c.columns), got, ok, c.want)
	}
}

func TestMinorOfWholeFails(t *testing.T) {
	check := func(w impl.Whole, rows, columns []int64) {
		t.Helper()
		got, ok := impl.MinorOfWhole(w, rows, columns)
		wantNoInteger(t, fmt.Sprint("MinorOfWhole ", toldWhole(w), rows, columns), got, ok)
	}
	for _, w := range notLow() {
		check(w, []int64{0}, []int64{0})
		check(w, []int64{0, 1}, []int64{0, 1})
	}
	good := integers(3, 4, 1, 2, 3, 4, 5, 6, 7, 8, 9, 10, 11, 13)
	for _, list := range [][]int64{
		nil, {}, {1, 0}, {1, 1}, {0, 0}, {2, 0}, {0, 2, 1}, {0, 0, 1}, {0, 1, 1}, {2, 1, 0}, {-1}, {-1, 0}, {4}, {0, 4}, {math.MinInt64}, {math.MaxInt64}, {0, math.MaxInt64}, {math.MinInt64, 0}, {1 << 32}, {0, 1, 2, 3, 4, 5, 6},
	} {
		check(good, list, sequence(0, int64(len(list))))
		check(good, sequence(0, int64(len(list))), list)
		check(good, list, list)
	}
	// numbers that are no row, but a column
	check(good, []int64{3}, []int64{3})
	check(good, []int64{0, 1, 2, 3}, []int64{0, 1, 2, 3})
	check(integers(1, 6, 1, 2, 3, 4, 5, 6), []int64{1}, []int64{1})
	check(integers(6, 1, 1, 2, 3, 4, 5, 6), []int64{1}, []int64{1})
	check(allOf(6, 6, 1), sequence(0, 7), sequence(0, 7))
	check(allOf(6, 6, 1), sequence(1, 7), sequence(0, 6))
	check(allOf(6, 6, 1), sequence(0, 6), sequence(1, 7))
	// more rows than columns, and fewer
	check(good, []int64{0, 1}, []int64{0})
	check(good, []int64{0}, []int64{0, 1})
	check(good, []int64{0}, nil)
	check(good, nil, []int64{0})
	check(good, []int64{0, 1, 2}, []int64{0, 1, 2, 3})
	// what has one number that is not low elsewhere
	check(integers(2, 2, 1, 2, 3, 101), []int64{0}, []int64{0})
}

func TestAdjointOf(t *testing.T) {
	cases := []struct{ w, want impl.Whole }{
		{integers(2, 2, 1, 2, 3, 4), integers(2, 2, 4, -2, -3, 1)}, {integers(1, 1, 7), integers(1, 1, 1)}, {integers(1, 1, 0), integers(1, 1, 1)}, {integers(2, 2, 0, 0, 0, 0), integers(2, 2, 0, 0, 0, 0)}, {integers(2, 2, 1, 2, 2, 4), integers(2, 2, 4, -2, -2, 1)}, {integers(2, 2, 100, -100, -100, 100), allOf(2, 2, 100)},
		{integers(3, 3, 2, 0, 1, -1, 3, 0, 4, 1, -2), integers(3, 3, -6, 1, -3, -2, -8, -1, -13, -2, 6)}, {integers(3, 3, 74, -76, -51, 44, 41, 79, -65, -63, 37), integers(3, 3, 6494, 6025, -3913, -6763, -577, -8090, -107, 9602, 6378)}, {allOf(3, 3, 100), allOf(3, 3, 0)}, {inMiddle(2, 3, 5), inMiddle(15, 10, 6)},
		{integers(4, 4, 2, 1, 0, -1, 0, 3, 5, 2, 1, 1, 1, 1, -4, 0, 2, 6), integers(4, 4, -14, -2, 20, -5, 38, 2, -32, 11, -22, 2, 16, -7, -2, -2, 8, 1)},
		// up to the limit
		{inMiddle(100, 100, 100, 100), inMiddle(1000000, 1000000, 1000000, 1000000)}, {inMiddle(100, 100, 100, 1), inMiddle(10000, 10000, 10000, 1000000)}, {inMiddle(1, 100, -100, 100), inMiddle(-1000000, -10000, 10000, -10000)},
	}
	for _, c := range cases {
		got, ok := impl.AdjointOf(c.w)
		wantWhole(t, "AdjointOf "+toldWhole(c.w), got, ok, c.want)
	}
	// 1000001, and its opposite, are too great
	over := integers(4, 4, 74, -76, -51, 0, 44, 41, 79, 0, -65, -63, 37, 0, 0, 0, 0, 1)
	moved := integers(4, 4, 0, 74, -76, -51, 0, 44, 41, 79, 0, -65, -63, 37, 1, 0, 0, 0)
	for _, w := range append(notLowSquares(), over, moved, allOf(5, 5, 0), inMiddle(1, 1, 1, 1, 1), allOf(6, 6, 1), integers(4, 4, 100, 100, 100, 100, 100, -100, 100, -100, 100, 100, -100, -100, 100, -100, -100, 100)) {
		got, ok := impl.AdjointOf(w)
		wantNoWhole(t, "AdjointOf "+toldWhole(w), got, ok)
	}
}

func TestNormalOf(t *testing.T) {
	cases := []struct {
		w    impl.Whole
		want []int64
	}{
		{integers(2, 2, 2, 4, 6, 8), []int64{2, 4}}, {integers(1, 1, -7), []int64{7}}, {integers(1, 1, 0), []int64{0}}, {integers(1, 4, 6, -10, 15, 0), []int64{1}}, {integers(4, 1, 6, -10, 14, 0), []int64{2}}, {integers(2, 2, 0, 0, 0, 0), []int64{0, 0}}, {integers(2, 2, 1, 2, 2, 4), []int64{1, 0}}, {inMiddle(2, 3), []int64{1, 6}}, {inMiddle(-4, 6), []int64{2, 12}},
		{integers(2, 3, 2, 4, 6, 4, 8, 12), []int64{2, 0}}, {integers(3, 2, 2, 4, 6, 4, 8, 12), []int64{2, 4}}, {integers(2, 4, 2, 0, 0, 4, 0, 6, 0, 0), []int64{2, 6}}, {inMiddle(0, 0, 9), []int64{9, 0, 0}}, {inMiddle(10, 0, 15, 6), []int64{1, 30, 30, 0}},
		{integers(3, 3, 2, 4, 4, -6, 6, 12, 10, -4, -16), []int64{2, 6, 12}}, {integers(3, 3, 1, 2, 3, 4, 5, 6, 7, 8, 9), []int64{1, 3, 0}}, {integers(4, 4, 2, 1, 0, -1, 0, 3, 5, 2, 1, 1, 1, 1, -4, 0, 2, 6), []int64{1, 1, 1, 12}}, {inMiddle(100, 100, 100, 100), []int64{100, 100, 100, 100}}, {allOf(4, 4, -100), []int64{100, 0, 0, 0}}, {allOf(4, 4, 0), []int64{0, 0, 0, 0}},
		{integers(4, 4, 100, 100, 100, 100, 100, -100, 100, -100, 100, 100, -100, -100, 100, -100, -100, 100), []int64{100, 200, 200, 400}}, {inMiddle(97, 89, 83, 79), []int64{1, 1, 1, 97 * 89 * 83 * 79}}, {allOf(3, 4, 5), []int64{5, 0, 0}}, {allOf(4, 3, 5), []int64{5, 0, 0}},
	}
	for _, c := range cases {
		for _, w := range []impl.Whole{c.w, flippedWhole(t, c.w)} {
			got, ok := impl.NormalOf(w)
			wantIntegers(t, "NormalOf "+toldWhole(w), got, ok, c.want...)
		}
	}
	for _, w := range append(notLow(), allOf(5, 1, 1), allOf(1, 5, 1), allOf(5, 5, 0), allOf(4, 5, 1), allOf(5, 4, 1), allOf(6, 4, 1), allOf(4, 6, 1)) {
		got, ok := impl.NormalOf(w)
		wantNothing(t, "NormalOf "+toldWhole(w), got, ok)
	}
}

func flippedWhole(t *testing.T, w impl.Whole) impl.Whole {
	t.Helper()
	flip, ok := impl.FlipWhole(w)
	wantBool(t, "FlipWhole", ok, true)
	return flip
}

func TestExamplesOfDeterminants(t *testing.T) {
	w := integers(2, 2, 1, 2, 3, 4)
	det, ok := impl.DetOfWhole(w)
	wantInteger(t, "DetOfWhole of the rows 1 2 and 3 4", det, ok, -2)
	characters, ok := impl.CharactersOf(w)
	wantIntegers(t, "CharactersOf the rows 1 2 and 3 4", characters, ok, -5, -2)
	normal, ok := impl.NormalOf(integers(2, 2, 2, 4, 6, 8))
	wantBool(t, "NormalOf the rows 2 4 and 6 8", ok && slices.Equal(normal, []int64{2, 4}), true)
}
