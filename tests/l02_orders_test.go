package tests

import (
	"fmt"
	"math"
	"testing"

	"loop.example/g01327/impl"
)

func TestPartOfMatrix(t *testing.T) {
	a := matrix(3, 4, 1, 2, 3, 4, 5, 6, minusZero, 8, 9, 10, 11, 12)
	cases := []struct {
		row, column int64
		want        impl.Matrix
	}{
		{0, 0, a}, {0, 0, matrix(1, 1, 1)}, {2, 3, matrix(1, 1, 12)}, {1, 1, matrix(2, 2, 6, minusZero, 10, 11)}, {1, 0, matrix(1, 4, 5, 6, minusZero, 8)},
		{0, 3, matrix(3, 1, 4, 8, 12)}, {1, 1, matrix(2, 3, 6, minusZero, 8, 10, 11, 12)},
	}
	for _, c := range cases {
		got, ok := impl.PartOfMatrix(a, c.row, c.column, c.want.Rows, c.want.Columns)
		wantMatrix(t, "PartOfMatrix", got, ok, c.want)
	}
	whole := drawn(t, 12, 12, 8)
	got, ok := impl.PartOfMatrix(whole, 0, 0, 12, 12)
	wantMatrix(t, "PartOfMatrix of all", got, ok, whole)
	for _, c := range [][4]int64{
		{-1, 0, 1, 1}, {0, -1, 1, 1}, {3, 0, 1, 1}, {0, 4, 1, 1}, {2, 0, 2, 1}, {0, 3, 1, 2}, {0, 0, 4, 1}, {0, 0, 1, 5}, {0, 0, 0, 1}, {0, 0, 1, 0}, {1, 1, -1, 1}, {1, 1, 1, -1}, {3, 0, 0, 1}, {-1, 0, 2, 1},
		{math.MaxInt64, 0, 1, 1}, {0, math.MaxInt64, 1, 1}, {1, 0, math.MaxInt64, 1}, {0, 1, 1, math.MaxInt64}, {math.MinInt64, 0, math.MinInt64, 1}, {2, 0, math.MinInt64, 1}, {math.MinInt64, math.MinInt64, 1, 1},
	} {
		got, ok := impl.PartOfMatrix(a, c[0], c[1], c[2], c[3])
		wantNoMatrix(t, fmt.Sprint("PartOfMatrix ", c), got, ok)
	}
	for _, a := range notMatrices() {
		got, ok := impl.PartOfMatrix(a, 0, 0, 1, 1)
		wantNoMatrix(t, "PartOfMatrix "+toldMatrix(a), got, ok)
	}
}

func TestPutMatrix(t *testing.T) {
	a := matrix(2, 3, 1, 2, minusZero, 4, 5, 6)
	cases := []struct {
		row, column int64
		part, want  impl.Matrix
	}{
		{0, 0, matrix(1, 1, -9), matrix(2, 3, -9, 2, minusZero, 4, 5, 6)}, {1, 2, matrix(1, 1, minusZero), matrix(2, 3, 1, 2, minusZero, 4, 5, minusZero)},
		{0, 1, matrix(2, 1, 7, 8), matrix(2, 3, 1, 7, minusZero, 4, 8, 6)}, {1, 0, matrix(1, 3, 7, 8, 9), matrix(2, 3, 1, 2, minusZero, 7, 8, 9)},
		{0, 1, matrix(2, 2, 7, 8, 9, 10), matrix(2, 3, 1, 7, 8, 4, 9, 10)}, {0, 0, matrix(2, 3, 6, 5, 4, 3, 2, 1), matrix(2, 3, 6, 5, 4, 3, 2, 1)},
	}
	for _, c := range cases {
		got, ok := impl.PutMatrix(a, c.part, c.row, c.column)
		wantMatrix(t, "PutMatrix", got, ok, c.want)
	}
	got, ok := impl.PutMatrix(filled(12, 12, 1), filled(12, 12, 2), 0, 0)
	wantMatrix(t, "PutMatrix of all", got, ok, filled(12, 12, 2))
	one := matrix(1, 1, 1)
	for _, c := range [][2]int64{{-1, 0}, {0, -1}, {2, 0}, {0, 3}, {math.MaxInt64, 0}, {0, math.MaxInt64}, {math.MinInt64, 0}, {0, math.MinInt64}, {1, 3}, {2, 2}} {
		got, ok := impl.PutMatrix(a, one, c[0], c[1])
		wantNoMatrix(t, fmt.Sprint("PutMatrix ", c), got, ok)
	}
	for _, part := range []impl.Matrix{filled(3, 1, 1), filled(1, 4, 1), filled(3, 3, 1), filled(12, 12, 1)} {
		got, ok := impl.PutMatrix(a, part, 0, 0)
		wantNoMatrix(t, "PutMatrix of a greater part", got, ok)
	}
	got, ok = impl.PutMatrix(a, filled(2, 1, 1), 1, 0)
	wantNoMatrix(t, "PutMatrix of a part that does not lie in", got, ok)
	got, ok = impl.PutMatrix(a, filled(1, 2, 1), 0, 2)
	wantNoMatrix(t, "PutMatrix of a part that does not lie in", got, ok)
	for _, a := range notMatrices() {
		got, ok := impl.PutMatrix(a, one, 0, 0)
		wantNoMatrix(t, "PutMatrix "+toldMatrix(a), got, ok)
		got, ok = impl.PutMatrix(filled(12, 12, 1), a, 0, 0)
		wantNoMatrix(t, "PutMatrix "+toldMatrix(a), got, ok)
	}
}

func TestOrders(t *testing.T) {
	cases := []struct {
		list, back []int64
		sign       int64
	}{
		{[]int64{2, 0, 1}, []int64{1, 2, 0}, 1}, // the example
		{[]int64{0}, []int64{0}, 1}, {[]int64{1, 0}, []int64{1, 0}, -1}, {[]int64{0, 1, 2}, []int64{0, 1, 2}, 1}, {[]int64{2, 1, 0}, []int64{2, 1, 0}, -1},
		{[]int64{1, 2, 3, 0}, []int64{3, 0, 1, 2}, -1}, {[]int64{3, 2, 1, 0}, []int64{3, 2, 1, 0}, 1},
		{[]int64{11, 10, 9, 8, 7, 6, 5, 4, 3, 2, 1, 0}, []int64{11, 10, 9, 8, 7, 6, 5, 4, 3, 2, 1, 0}, 1},
		{[]int64{1, 2, 3, 4, 5, 6, 7, 8, 9, 10, 11, 0}, []int64{11, 0, 1, 2, 3, 4, 5, 6, 7, 8, 9, 10}, -1},
	}
	for _, c := range cases {
		wantBool(t, "IsOrder", impl.IsOrder(c.list), true)
		back, ok := impl.BackOrder(c.list)
		sign, ok2 := impl.OrderSign(c.list)
		if !ok || fmt.Sprint(back) != fmt.Sprint(c.back) || !ok2 || sign != c.sign {
			t.Errorf("the order %v: got %v %v, %d %v", c.list, back, ok, sign, ok2)
		}
	}
	for _, list := range notOrders() {
		wantBool(t, fmt.Sprint("IsOrder ", list), impl.IsOrder(list), false)
		back, ok := impl.BackOrder(list)
		wantNothing(t, fmt.Sprint("BackOrder ", list), back, ok)
		sign, ok := impl.OrderSign(list)
		wantBool(t, fmt.Sprint("OrderSign ", list), ok || sign != 0, false)
	}
}

func TestOrderRows(t *testing.T) {
	a := matrix(3, 2, 1, minusZero, 3, 4, 5, 6)
	got, ok := impl.OrderRows(a, []int64{2, 0, 1})
	wantMatrix(t, "OrderRows", got, ok, matrix(3, 2, 5, 6, 1, minusZero, 3, 4))
	got, ok = impl.OrderRows(a, []int64{0, 1, 2})
	wantMatrix(t, "OrderRows as they are", got, ok, a)
	got, ok = impl.OrderRows(matrix(1, 2, 1, 2), []int64{0})
	wantMatrix(t, "OrderRows of 1", got, ok, matrix(1, 2, 1, 2))
	for _, list := range append(notOrders(), []int64{0}, []int64{1, 0}, []int64{3, 2, 1, 0}, []int64{0, 1, 2, 3}) {
		got, ok := impl.OrderRows(a, list)
		wantNoMatrix(t, fmt.Sprint("OrderRows ", list), got, ok)
	}
	twelve := drawn(t, 12, 12, 4)
	for _, list := range notOrders() {
		got, ok := impl.OrderRows(twelve, list)
		wantNoMatrix(t, fmt.Sprint("OrderRows of 12 ", list), got, ok)
	}
	for _, a := range notMatrices() {
		for _, list := range [][]int64{{0}, {1, 0}, nil} {
			got, ok := impl.OrderRows(a, list)
			wantNoMatrix(t, "OrderRows "+toldMatrix(a), got, ok)
		}
	}
	got, ok = impl.OrderRows(filled(13, 1, 1), []int64{0, 1, 2, 3, 4, 5, 6, 7, 8, 9, 10, 11, 12})
	wantNoMatrix(t, "OrderRows of 13", got, ok)
}
