package tests

import (
	"fmt"
	"slices"
	"testing"

	"loop.example/g01327/impl"
)

// P3: products by blocks and by workers are products, each told in its order.
func TestPromise3Products(t *testing.T) {
	seed := int64(1)
	for rows := int64(1); rows <= 12; rows += 2 {
		for inner := int64(1); inner <= 12; inner++ {
			for columns := int64(1); columns <= 12; columns += 3 {
				seed = (seed*48271 + 11) % 2147483647
				a, b := drawnPair(t, rows, inner, columns, seed)
				product, ok := impl.MulMatrices(a, b)
				wantMatrix(t, "MulMatrices", product, ok, slowProduct(a, b, 12))
				for workers := int64(1); workers <= 8; workers++ {
					shared, ok := impl.MulShared(a, b, workers)
					wantMatrix(t, "MulShared", shared, ok, product)
				}
				for size := int64(1); size <= 12; size++ {
					blocks, ok := impl.MulBlocks(a, b, size)
					wantMatrix(t, "MulBlocks", blocks, ok, slowProduct(a, b, int(size)))
				}
			}
		}
	}
}

// P3: with small integers, all products are exact, however their sums are made.
func TestPromise3ExactProducts(t *testing.T) {
	whole := func(a impl.Matrix) impl.Matrix {
		for i, x := range a.Numbers {
			a.Numbers[i] = float32(int(x * 20))
		}
		return a
	}
	for seed := int64(0); seed < 40; seed++ {
		rows, inner, columns := 1+seed%5, 1+seed%12, 1+seed%7
		a, b := drawnPair(t, rows, inner, columns, seed)
		a, b = whole(a), whole(b)
		want := filled(rows, columns, 0)
		for i := range rows {
			for k := range columns {
				sum := 0
				for j := range inner {
					sum += int(a.Numbers[i*inner+j]) * int(b.Numbers[j*columns+k])
				}
				want.Numbers[i*columns+k] = float32(sum)
			}
		}
		for name, multiply := range multiplications() {
			got, ok := multiply(a, b)
			wantMatrix(t, name, got, ok, want)
		}
	}
}

// allOrders returns all orders of n numbers.
func allOrders(n int) [][]int64 {
	if n == 1 {
		return [][]int64{{0}}
	}
	var list [][]int64
	for _, order := range allOrders(n - 1) {
		for i := range n {
			list = append(list, slices.Insert(slices.Clone(order), i, int64(n-1)))
		}
	}
	return list
}

// signByChanges counts how many exchanges of two numbers make the list 0, 1, 2 and so on.
func signByChanges(order []int64) int64 {
	list := slices.Clone(order)
	sign := int64(1)
	for i := range list {
		for list[i] != int64(i) {
			k := list[i]
			list[i], list[k] = list[k], list[i]
			sign = -sign
		}
	}
	return sign
}

// P3: orders that lead back undo themselves.
func TestPromise3Orders(t *testing.T) {
	var orders [][]int64
	for n := 1; n <= 6; n++ {
		orders = append(orders, allOrders(n)...)
	}
	for step := int64(1); step < 12; step++ {
		var list []int64
		for i := range int64(13) {
			if n := (i * step) % 13; n > 0 {
				list = append(list, n-1)
			}
		}
		orders = append(orders, list)
	}
	for _, order := range orders {
		wantBool(t, "IsOrder", impl.IsOrder(order), true)
		back, ok := impl.BackOrder(order)
		again, ok2 := impl.BackOrder(back)
		wantBool(t, fmt.Sprint("back and back ", order), ok && ok2 && slices.Equal(again, order), true)
		sign, ok := impl.OrderSign(order)
		backSign, ok2 := impl.OrderSign(back)
		wantBool(t, fmt.Sprint("the sign of ", order), ok && ok2 && sign == signByChanges(order) && sign == backSign, true)
		a := drawn(t, int64(len(order)), 2, 3)
		ordered, ok := impl.OrderRows(a, order)
		for i, n := range order {
			wantBool(t, "a row", ok && slices.Equal(ordered.Numbers[2*i:2*i+2], a.Numbers[2*n:2*n+2]), true)
		}
		undone, ok := impl.OrderRows(ordered, back)
		wantMatrix(t, "OrderRows there and back", undone, ok, a)
	}
}

// matrixResults tells the results of all functions of chapter 2 by texts.
func matrixResults(a, b impl.Matrix, v []float32, list []int64, n int64) string {
	var out []any
	matrices := func(a impl.Matrix, ok bool) { out = append(out, toldMatrix(a), ok) }
	numbers := func(x float32, ok bool) { out = append(out, told(x), ok) }
	matrices(impl.UnitMatrix(n))
	matrices(impl.HilbertMatrix(n))
	drawn, seed, ok := impl.DrawnMatrix(a.Rows, b.Columns, n)
	matrices(drawn, ok)
	matrices(impl.FlipMatrix(a))
	matrices(impl.WeighMatrices(a, b, 0.1, float32(n)))
	matrices(impl.MulMatrices(a, b))
	matrices(impl.MulBlocks(a, b, n))
	matrices(impl.MulShared(a, b, n))
	matrices(impl.PowerMatrix(a, n))
	times, ok := impl.TimesVector(a, v)
	out = append(out, seed, toldList(times), ok, impl.ValidMatrix(a), impl.SameMatrix(a, b), impl.IsVector(v), impl.IsOrder(list))
	matrices(impl.OuterMatrix(v, a.Numbers))
	matrices(impl.KroneckerMatrix(a, b))
	matrices(impl.PartOfMatrix(a, 0, n-1, n, 1))
	matrices(impl.PutMatrix(a, b, 0, n-1))
	back, ok := impl.BackOrder(list)
	sign, ok2 := impl.OrderSign(list)
	out = append(out, back, ok, sign, ok2)
	matrices(impl.OrderRows(a, list))
	numbers(impl.TraceOf(a))
	numbers(impl.RowNorm(a))
	numbers(impl.ColumnNorm(a))
	numbers(impl.WholeNorm(a))
	numbers(impl.DotVectors(v, a.Numbers))
	numbers(impl.LongDot(v, a.Numbers))
	sum, lost, ok := impl.CarrySum(v)
	out = append(out, told(sum), told(lost), ok)
	return fmt.Sprint(out...)
}

// matrixArguments are valid and other matrices, with a vector, an order and a number for each.
func matrixArguments(t *testing.T) ([]impl.Matrix, [][]float32, [][]int64, []int64) {
	t.Helper()
	matrices := append(notMatrices(), drawn(t, 1, 1, 1), drawn(t, 2, 2, 2), drawn(t, 3, 3, 3), drawn(t, 2, 3, 4), drawn(t, 3, 2, 5), drawn(t, 12, 12, 6), filled(2, 2, greatest), matrix(1, 1, minusZero))
	vectors := append(notVectors(), []float32{1}, []float32{1.5, -2}, []float32{0.1, 0.2, 0.3}, drawn(t, 12, 12, 7).Numbers, repeated[float32](greatest, 12))
	orders := append(notOrders(), []int64{0}, []int64{1, 0}, []int64{2, 0, 1}, []int64{11, 0, 1, 2, 3, 4, 5, 6, 7, 8, 9, 10})
	return matrices, vectors, orders, []int64{0, 1, 2, 3, 8, 12, 13, 64, -1, 1 << 62, -1 << 63}
}

// P1: every function returns, and returns equal results for equal arguments, whoever calls.
func TestPromise1EqualMatrices(t *testing.T) {
	matrices, vectors, orders, counts := matrixArguments(t)
	tell := func(i, k int) string {
		return matrixResults(matrices[i], matrices[k], vectors[(i+k)%len(vectors)], orders[(i+2*k)%len(orders)], counts[(2*i+k)%len(counts)])
	}
	wantEqualResults(t, len(matrices), len(matrices), tell)
}

// P1: no function modifies an argument, or the room behind it.
func TestPromise1MatricesStay(t *testing.T) {
	toldNumber := func(x float32) string { return fmt.Sprint(told(x)) }
	toldInteger := func(n int64) string { return fmt.Sprint(n) }
	matrices, vectors, orders, _ := matrixArguments(t)
	for i, a := range matrices {
		b := matrices[(3*i+1)%len(matrices)]
		if i%2 == 0 {
			b = a
		}
		var changed [4]func() bool
		a.Numbers, changed[0] = guarded(a.Numbers, 99, toldNumber)
		b.Numbers, changed[1] = guarded(b.Numbers, 99, toldNumber)
		v, vChanged := guarded(vectors[i%len(vectors)], 99, toldNumber)
		list, listChanged := guarded(orders[i%len(orders)], 99, toldInteger)
		if a.Rows == 2 {
			v, vChanged = guarded([]float32{1.5, -2}, 99, toldNumber)
			list, listChanged = guarded([]int64{1, 0}, 99, toldInteger)
		}
		changed[2], changed[3] = vChanged, listChanged
		for n := int64(0); n <= 3; n++ {
			matrixResults(a, b, v, list, n)
			matrixResults(b, a, v, list, n)
		}
		for _, f := range changed {
			wantBool(t, "an argument has changed", f(), false)
		}
	}
}

// P1: what a function has returned is the caller's own.
func TestPromise1MatricesAreNew(t *testing.T) {
	a := matrix(2, 2, 1, 2, 3, 4)
	unit := matrix(2, 2, 1, 0, 0, 1)
	v, w := []float32{1, 2}, []float32{1}
	list := []int64{1, 0}
	one := matrix(1, 1, 1)
	calls := map[string]func() (impl.Matrix, bool){
		"UnitMatrix":      func() (impl.Matrix, bool) { return impl.UnitMatrix(2) },
		"HilbertMatrix":   func() (impl.Matrix, bool) { return impl.HilbertMatrix(2) },
		"DrawnMatrix":     func() (impl.Matrix, bool) { a, _, ok := impl.DrawnMatrix(2, 2, 1); return a, ok },
		"FlipMatrix":      func() (impl.Matrix, bool) { return impl.FlipMatrix(a) },
		"FlipMatrix 1":    func() (impl.Matrix, bool) { return impl.FlipMatrix(one) },
		"WeighMatrices":   func() (impl.Matrix, bool) { return impl.WeighMatrices(a, a, 1, 0) },
		"MulMatrices":     func() (impl.Matrix, bool) { return impl.MulMatrices(a, unit) },
		"MulBlocks":       func() (impl.Matrix, bool) { return impl.MulBlocks(a, unit, 1) },
		"MulShared":       func() (impl.Matrix, bool) { return impl.MulShared(a, unit, 2) },
		"PowerMatrix 0":   func() (impl.Matrix, bool) { return impl.PowerMatrix(a, 0) },
		"PowerMatrix 1":   func() (impl.Matrix, bool) { return impl.PowerMatrix(a, 1) },
		"PowerMatrix 2":   func() (impl.Matrix, bool) { return impl.PowerMatrix(a, 2) },
		"OuterMatrix":     func() (impl.Matrix, bool) { return impl.OuterMatrix(v, w) },
		"KroneckerMatrix": func() (impl.Matrix, bool) { return impl.KroneckerMatrix(a, one) },
		"PartOfMatrix":    func() (impl.Matrix, bool) { return impl.PartOfMatrix(a, 0, 0, 2, 2) },
		"PartOfMatrix 1":  func() (impl.Matrix, bool) { return impl.PartOfMatrix(a, 1, 0, 1, 2) },
		"PutMatrix":       func() (impl.Matrix, bool) { return impl.PutMatrix(a, one, 0, 0) },
		"PutMatrix all":   func() (impl.Matrix, bool) { return impl.PutMatrix(a, unit, 0, 0) },
		"OrderRows":       func() (impl.Matrix, bool) { return impl.OrderRows(a, []int64{0, 1}) },
		"TimesVector": func() (impl.Matrix, bool) {
			list, ok := impl.TimesVector(unit, v)
			return matrix(1, 2, list...), ok
		},
	}
	for name, call := range calls {
		first, ok := call()
		before := toldMatrix(first)
		for i := range first.Numbers {
			first.Numbers[i] = -99
		}
		_ = append(first.Numbers, -99)
		second, ok2 := call()
		wantBool(t, name, ok && ok2 && toldMatrix(second) == before, true)
	}
	if toldMatrix(a) != toldMatrix(matrix(2, 2, 1, 2, 3, 4)) || toldMatrix(unit) != toldMatrix(matrix(2, 2, 1, 0, 0, 1)) || toldMatrix(one) != toldMatrix(matrix(1, 1, 1)) || v[0] != 1 || v[1] != 2 || w[0] != 1 {
		t.Error("a result shares memory with an argument")
	}
	back, _ := impl.BackOrder(list)
	back[0] = 9
	again, ok := impl.BackOrder(list)
	wantBool(t, "BackOrder again", ok && slices.Equal(again, []int64{1, 0}) && slices.Equal(list, []int64{1, 0}), true)
}
