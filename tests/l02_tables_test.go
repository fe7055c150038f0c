package tests

import (
	"fmt"
	"testing"

	"loop.example/g01327/impl"
)

// The tables hold results that were computed apart from the program, by their bits; the matrices
// are drawn with the seed of a row, the second one with the seed that is left.

func numbersOf(bits []int64) []float32 {
	list := make([]float32, len(bits))
	for i, b := range bits {
		list[i] = number(b)
	}
	return list
}

func fmtBits(list []float32) string {
	return fmt.Sprintf("%08x", toldList(list))
}

type drawnRow struct {
	rows, columns, seed, next int64
	numbers                   []int64
}

func drawnRows() []drawnRow {
	return []drawnRow{
		{1, 3, 0, 654583775, []int64{0xbf800000, 0x3e9ee000, 0xbec7e000}},
		{2, 2, 1, 1147902781, []int64{0x3ce30000, 0xbf260800, 0xbec3f800, 0x3d8d6000}},
		{3, 1, 2147483647, 646343466, []int64{0xbce38000, 0xbf3b1c00, 0xbecbd000}},
		{1, 2, 987654321, 638681367, []int64{0xbcc10000, 0xbecf7800}},
	}
}

// drawnPair returns two matrices that can be multiplied.
func drawnPair(t *testing.T, rows, inner, columns, seed int64) (impl.Matrix, impl.Matrix) {
	t.Helper()
	a, next, ok := impl.DrawnMatrix(rows, inner, seed)
	b, _, ok2 := impl.DrawnMatrix(inner, columns, next)
	wantBool(t, "DrawnMatrix", ok && ok2, true)
	return a, b
}

func TestTableOfBlocks(t *testing.T) {
	rows := []struct {
		seed, inner int64
		bySize      []int64
	}{
		{19, 12, []int64{0xbfbd6407, 0xbfbd6406, 0xbfbd6407, 0xbfbd6406, 0xbfbd6407, 0xbfbd6406, 0xbfbd6406, 0xbfbd6406, 0xbfbd6407, 0xbfbd6407, 0xbfbd6407, 0xbfbd6407}},
		{100, 12, []int64{0xbdd848ea, 0xbdd848e6, 0xbdd848e6, 0xbdd848e4, 0xbdd848e0, 0xbdd848f0, 0xbdd848ea, 0xbdd848e8, 0xbdd848ea, 0xbdd848ea, 0xbdd848ea, 0xbdd848ea}},
		{2026, 12, []int64{0xbea40992, 0xbea40992, 0xbea40992, 0xbea40994, 0xbea40993, 0xbea40992, 0xbea40994, 0xbea40994, 0xbea40992, 0xbea40992, 0xbea40992, 0xbea40992}},
		{3, 7, []int64{0xbf0d5069, 0xbf0d5068, 0xbf0d5069, 0xbf0d5068, 0xbf0d5068, 0xbf0d5069, 0xbf0d5069, 0xbf0d5069, 0xbf0d5069, 0xbf0d5069, 0xbf0d5069, 0xbf0d5069}},
		{5, 10, []int64{0x3f767e01, 0x3f767e02, 0x3f767e03, 0x3f767e02, 0x3f767e02, 0x3f767e02, 0x3f767e01, 0x3f767e02, 0x3f767e01, 0x3f767e01, 0x3f767e01, 0x3f767e01}},
		{11, 11, []int64{0xbdaae844, 0xbdaae844, 0xbdaae848, 0xbdaae840, 0xbdaae844, 0xbdaae844, 0xbdaae83c, 0xbdaae840, 0xbdaae840, 0xbdaae844, 0xbdaae844, 0xbdaae844}},
	}
	for _, r := range rows {
		a, b := drawnPair(t, 1, r.inner, 1, r.seed)
		for i, bits := range r.bySize {
			got, ok := impl.MulBlocks(a, b, int64(i+1))
			wantMatrix(t, fmt.Sprint("MulBlocks ", r.seed, i+1), got, ok, matrix(1, 1, number(bits)))
		}
	}
}

func TestTableOfProducts(t *testing.T) {
	rows := []struct {
		seed, rows, inner, columns int64
		product                    []int64
	}{
		{1, 2, 3, 2, []int64{0x3eac4fcc, 0x3f0e5fe9, 0x3f109e36, 0xbf109536}},
		{2, 3, 12, 2, []int64{0xbfd948dc, 0x3fb4753c, 0x3f67ca00, 0xbf9fe73f, 0xc03c566a, 0x3feab33d}},
		{3, 1, 5, 4, []int64{0xbcb9fc50, 0xbd9d1160, 0x3f10220f, 0x3e7f064a}},
		{4, 4, 4, 1, []int64{0x3e8f5d98, 0x3ec64161, 0xbf8b6cbe, 0xbf170eef}},
	}
	for _, r := range rows {
		a, b := drawnPair(t, r.rows, r.inner, r.columns, r.seed)
		want := matrix(r.rows, r.columns, numbersOf(r.product)...)
		got, ok := impl.MulMatrices(a, b)
		wantMatrix(t, fmt.Sprint("MulMatrices ", r.seed), got, ok, want)
		for workers := int64(1); workers <= 8; workers++ {
			got, ok := impl.MulShared(a, b, workers)
			wantMatrix(t, fmt.Sprint("MulShared ", r.seed, workers), got, ok, want)
		}
		if r.columns == 1 {
			got, ok := impl.TimesVector(a, b.Numbers)
			wantList(t, "TimesVector", got, ok, want.Numbers...)
		}
	}
}

func TestTableOfPowers(t *testing.T) {
	rows := []struct {
		seed, side, power int64
		result            []int64
	}{
		{1, 2, 1, []int64{0x3ce30000, 0xbf260800, 0xbec3f800, 0x3d8d6000}},
		{1, 2, 2, []int64{0x3e7efb29, 0xbd807ef1, 0xbd17aa4f, 0x3e818987}},
		{1, 2, 3, []int64{0x3cfd4086, 0xbe29ce36, 0xbdc86c6f, 0x3d29e680}},
		{4, 3, 5, []int64{0x3e165432, 0x3eb553fd, 0xbec9116c, 0xbebabe4f, 0x3f4110db, 0xbf2e1d90, 0xbd8e96c8, 0xbf645182, 0x3fdeba17}},
		{9, 2, 11, []int64{0x38665784, 0xb80fcdb8, 0xb810cb2c, 0x3717398e}},
		{9, 2, 63, []int64{0x17fad5c8, 0x9785bb23, 0x9786a6d6, 0x170f9223}},
		{9, 2, 64, []int64{0x17531f1a, 0x96e11ca4, 0x96e2a963, 0x1671b0d8}},
		{6, 3, 20, []int64{0x3d1f1700, 0xbe349000, 0x3f49b010, 0xc08baeee, 0x4089ba07, 0xc09d1de0, 0xc0fdfa80, 0x40f5a762, 0xc101fd16}},
	}
	for _, r := range rows {
		got, ok := impl.PowerMatrix(drawn(t, r.side, r.side, r.seed), r.power)
		wantMatrix(t, fmt.Sprint("PowerMatrix ", r.seed, r.power), got, ok, matrix(r.side, r.side, numbersOf(r.result)...))
	}
}

func TestTableOfSums(t *testing.T) {
	rows := []struct {
		seed, side                                          int64
		trace, row, column, whole, dot, long, carried, lost int64
	}{
		{1, 3, 0x3f699400, 0x3fcf7600, 0x4005d200, 0x3fc0c63a, 0xbf10458f, 0xbf10458e, 0xbe405cbd, 0x31280000},
		{2, 5, 0xbf487400, 0x405a2900, 0x40654800, 0x404a7e09, 0x404dee99, 0x404dee9a, 0x3f8949bc, 0x33200000},
		{3, 8, 0x3fd2f800, 0x40a96c00, 0x40ad6300, 0x4095f148, 0x3ef21b68, 0x3ef21b64, 0x3e216792, 0x00000000},
		{4, 12, 0xbffa2000, 0x40fe8d00, 0x41094880, 0x40dd9510, 0xc0bf400a, 0xc0bf400a, 0xbfff000d, 0xb2800000},
	}
	for _, r := range rows {
		a, b := drawnPair(t, r.side, r.side, r.side, r.seed)
		got, ok := impl.TraceOf(a)
		wantResult(t, "TraceOf", got, ok, number(r.trace))
		got, ok = impl.RowNorm(a)
		wantResult(t, "RowNorm", got, ok, number(r.row))
		got, ok = impl.ColumnNorm(a)
		wantResult(t, "ColumnNorm", got, ok, number(r.column))
		got, ok = impl.WholeNorm(a)
		wantResult(t, "WholeNorm", got, ok, number(r.whole))
		got, ok = impl.DotVectors(a.Numbers, b.Numbers)
		wantResult(t, "DotVectors", got, ok, number(r.dot))
		got, ok = impl.LongDot(a.Numbers, b.Numbers)
		wantResult(t, "LongDot", got, ok, number(r.long))
		thirds := make([]float32, len(a.Numbers))
		for i, x := range a.Numbers {
			thirds[i] = x * b.Numbers[i] / 3
		}
		sum, lost, ok := impl.CarrySum(thirds)
		wantResult(t, "CarrySum", sum, ok, number(r.carried))
		wantResult(t, "what CarrySum lost", lost, ok, number(r.lost))
	}
}
