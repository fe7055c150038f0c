package tests

import (
	"fmt"
	"testing"

	"loop.example/g01327/impl"
)

func TestShiftTimes(t *testing.T) {
	cases := []struct{ list, v, want []float32 }{
		{[]float32{4, 1}, []float32{1, 2}, []float32{6, 9}}, {[]float32{3}, []float32{-2}, []float32{-6}}, {[]float32{1, 0.5, 0.25}, []float32{1, 2, 4}, []float32{3, 4.5, 5.25}}, {[]float32{0, 0, 1}, []float32{5, 6, 7}, []float32{7, 0, 5}},
		// sums begin with +0, and go in order
		{[]float32{1}, []float32{minusZero}, []float32{0}}, {[]float32{-1, 0}, []float32{0, minusZero}, []float32{0, 0}}, {[]float32{1, 1, 1}, []float32{1 << 24, 1, 1}, repeated[float32](1<<24, 3)}, {[]float32{1, 1, 1}, []float32{1, 1, 1 << 24}, repeated[float32](1<<24+2, 3)},
		{repeated[float32](2, 12), repeated[float32](3, 12), repeated[float32](72, 12)},
	}
	for _, c := range cases {
		got, ok := impl.ShiftTimes(c.list, c.v)
		wantList(t, fmt.Sprint("ShiftTimes ", c.list, c.v), got, ok, c.want...)
	}
	check := func(list, v []float32) {
		t.Helper()
		got, ok := impl.ShiftTimes(list, v)
		wantNothing(t, fmt.Sprint("ShiftTimes ", list, v), got, ok)
	}
	for _, list := range notFirstRows() {
		check(list, repeated[float32](1, max(1, len(list))))
		check(list, list)
	}
	for _, v := range notPairs() {
		check([]float32{4, 1}, v)
	}
	check([]float32{greatest}, []float32{2})
	check([]float32{greatest, greatest}, []float32{1, 1})
}

func TestReflectionsOf(t *testing.T) {
	cases := []struct {
		list, shares, reflections []float32
		left                      float32
	}{
		{[]float32{4, 2, 1}, []float32{0.5, 0}, []float32{0.5, 0}, 3}, {[]float32{1, 0, 0}, []float32{0, 0}, []float32{0, 0}, 1}, {[]float32{2, -1}, []float32{-0.5}, []float32{-0.5}, 1.5}, {[]float32{2, minusZero}, []float32{minusZero}, []float32{minusZero}, 2},
		// one number tells nothing
		{[]float32{4}, nil, nil, 4}, {[]float32{number(1)}, nil, nil, number(1)}, {[]float32{greatest}, nil, nil, greatest},
		{[]float32{4, 1, 2}, numbersOf([]int64{0x3e088888, 0x3eeeeeef}), numbersOf([]int64{0x3e800000, 0x3eeeeeef}), number(0x403bbbbc)},
		{[]float32{3, -1, 1, -2}, numbersOf([]int64{0xbdccccce, 0x3dccccca, 0xbf19999a}), numbersOf([]int64{0xbeaaaaab, 0x3e7fffff, 0xbf19999a}), number(0x3fcccccc)},
		{[]float32{0.1, 0.03, -0.02}, numbersOf([]int64{0x3eca8ca8, 0xbea32a32}), numbersOf([]int64{0x3e999999, 0xbea32a32}), number(0x3da770de)},
		{rowsWith(1, 2, 11, 1), numbersOf([]int64{0x3daaaaa7, 0x3daaaaa9, 0x3daaaaae, 0x3daaaaab, 0x3daaaaae, 0x3daaaaa9, 0x3daaaaab, 0x3daaaaac, 0x3daaaaac, 0x3daaaaa8, 0x3daaaaa8}), numbersOf([]int64{0x3f000000, 0x3eaaaaab, 0x3e800001, 0x3e4ccccd, 0x3e2aaaab, 0x3e124923, 0x3e000000, 0x3de38e3a, 0x3dcccccd, 0x3dba2e88, 0x3daaaaa8}), number(0x3f8aaaaa)},
	}
	for _, c := range cases {
		shares, reflections, left, ok := impl.ReflectionsOf(c.list)
		what := fmt.Sprint("ReflectionsOf ", c.list)
		wantList(t, what, shares, ok, c.shares...)
		wantList(t, what+", reflections", reflections, ok, c.reflections...)
		wantResult(t, what+", what is left", left, ok, c.left)
	}
}

// noForesight are lists of which nothing tells the next number.
func noForesight() [][]float32 {
	return [][]float32{
		{0}, {minusZero}, {-1}, {-number(1)}, {-greatest}, {0, 0}, {0, 1}, {minusZero, 1}, {-4, 2, 1}, {-2, 1},
		// e becomes 0, less than 0, an infinity, or no number
		{1, 1}, {1, -1}, {number(1), number(1)}, {greatest, -greatest}, {1, 2}, {4, 2, -3}, {4, 2, -2}, {4, 2, 4}, {4, 2, 5}, {4, 2, 1, 4}, {2, 1, 1, 3}, {2, 1, 1, 1, 1, 1, 1, 1, 1, 1, 1, 3}, {1, 1, 0}, {1, 2, 0},
		{1e-20, 1e20}, {number(1), greatest}, {1e-10, 1, 1}, numbersOf([]int64{0x7f7fffff, 0xfeb209ba, 0xff3ced19, 0x7f4ea642, 0}),
	}
}

func TestReflectionsOfFail(t *testing.T) {
	for _, list := range append(notFirstRows(), noForesight()...) {
		shares, reflections, left, ok := impl.ReflectionsOf(list)
		what := fmt.Sprint("ReflectionsOf ", list)
		wantNothing(t, what, shares, ok)
		wantNothing(t, what+", reflections", reflections, ok)
		wantNoResult(t, what+", what is left", left, ok)
	}
}

func TestShiftSolve(t *testing.T) {
	cases := []struct{ list, b, want []float32 }{
		{[]float32{4, 2}, []float32{8, 10}, []float32{1, 2}}, {[]float32{4}, []float32{8}, []float32{2}}, {[]float32{4}, []float32{minusZero}, []float32{minusZero}}, {[]float32{1, 0, 0}, []float32{minusZero, 5, minusZero}, []float32{0, 5, minusZero}}, {[]float32{number(1)}, []float32{number(3)}, []float32{3}}, {[]float32{greatest}, []float32{greatest}, []float32{1}},
		{[]float32{4, 1, 2}, []float32{1, 2, 3}, numbersOf([]int64{0xbe68ba2e, 0x3eba2e8c, 0x3f45d174})}, {[]float32{3, -1, 1, -2}, []float32{1, 0, 0, minusZero}, numbersOf([]int64{0x3f200000, 0x3d800001, 0xbd800000, 0x3ec00000})}, {[]float32{0.1, 0.03, -0.02}, []float32{1, 1, 1}, numbersOf([]int64{0x4134a529, 0x404e73a0, 0x4134a529})},
		{rowsWith(1, 2, 11, 1), repeated[float32](13, 12), numbersOf([]int64{0x3f7ffffc, 0x3f800001, 0x3f800006, 0x3f800000, 0x3f800007, 0x3f800004, 0x3f800001, 0x3f7ffff6, 0x3f7ffff6, 0x3f800004, 0x3f800000, 0x3f7fffee})},
	}
	for _, c := range cases {
		got, ok := impl.ShiftSolve(c.list, c.b)
		wantList(t, fmt.Sprint("ShiftSolve ", c.list, c.b), got, ok, c.want...)
	}
}

func TestShiftSolveFails(t *testing.T) {
	check := func(list, b []float32) {
		t.Helper()
		got, ok := impl.ShiftSolve(list, b)
		wantNothing(t, fmt.Sprint("ShiftSolve ", list, b), got, ok)
	}
	for _, list := range append(notFirstRows(), noForesight()...) {
		check(list, repeated[float32](1, max(1, len(list))))
		check(list, make([]float32, max(1, len(list))))
		check(list, list)
	}
	for _, b := range notPairs() {
		check([]float32{4, 2}, b)
	}
	check([]float32{4}, []float32{1, 2})
	check([]float32{4}, nil)
	check(rowsWith(1, 2, 11, 1), repeated[float32](1, 11))
	check(rowsWith(1, 2, 11, 1), repeated[float32](1, 13))
	// a number of x becomes one that is not finite, at first or at last
	check([]float32{number(1)}, []float32{1})
	check([]float32{0.5, 0}, []float32{greatest, 0})
	check([]float32{0.5, 0}, []float32{0, -greatest})
	check([]float32{4, 3}, []float32{greatest, -greatest})
}
