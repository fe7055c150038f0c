package tests

import (
	"math"
	"testing"

	"loop.example/g01327/impl"
)

// slowSum adds products by blocks of size, and rounds each operation by narrowing it, which is
// right for sums and products of 32-bit numbers.
func slowSum(v, w []float32, size int) float32 {
	total := 0.0
	for start := 0; start < len(v); start += size {
		sum := 0.0
		for i := start; i < start+size && i < len(v); i++ {
			product := float32(float64(v[i]) * float64(w[i]))
			sum = float64(float32(sum + float64(product)))
		}
		total = float64(float32(total + sum))
	}
	return float32(total)
}

func slowProduct(a, b impl.Matrix, size int) impl.Matrix {
	product := filled(a.Rows, b.Columns, 0)
	for i := range a.Rows {
		for k := range b.Columns {
			column := make([]float32, b.Rows)
			for j := range b.Rows {
				column[j] = b.Numbers[j*b.Columns+k]
			}
			product.Numbers[i*b.Columns+k] = slowSum(a.Numbers[i*a.Columns:(i+1)*a.Columns], column, size)
		}
	}
	return product
}

// multiplications are all functions that tell the same product of matrices with one product in
// each sum, or with small integers.
func multiplications() map[string]func(a, b impl.Matrix) (impl.Matrix, bool) {
	list := map[string]func(a, b impl.Matrix) (impl.Matrix, bool){"MulMatrices": impl.MulMatrices}
	for size := int64(1); size <= 12; size++ {
		list["MulBlocks "+impl.Decimal(size)] = func(a, b impl.Matrix) (impl.Matrix, bool) { return impl.MulBlocks(a, b, size) }
	}
	for workers := int64(1); workers <= 8; workers++ {
		list["MulShared "+impl.Decimal(workers)] = func(a, b impl.Matrix) (impl.Matrix, bool) { return impl.MulShared(a, b, workers) }
	}
	return list
}

func TestMultiplications(t *testing.T) {
	cases := []struct{ a, b, want impl.Matrix }{
		{matrix(2, 2, 1, 2, 3, 4), matrix(2, 2, 1, 2, 3, 4), matrix(2, 2, 7, 10, 15, 22)}, // the example
		{matrix(1, 3, 1, 2, 3), matrix(3, 1, 4, 5, 6), matrix(1, 1, 32)},
		{matrix(3, 1, 1, 2, 3), matrix(1, 2, 4, 5), matrix(3, 2, 4, 5, 8, 10, 12, 15)},
		{matrix(2, 3, 1, 2, 3, 4, 5, 6), matrix(3, 4, 1, 0, 0, 1, 0, 1, 0, 1, 0, 0, 1, 1), matrix(2, 4, 1, 2, 3, 6, 4, 5, 6, 15)},
		{matrix(1, 1, greatest), matrix(1, 1, -1), matrix(1, 1, -greatest)},
		// each sum begins with +0
		{matrix(1, 1, minusZero), matrix(1, 1, 5), matrix(1, 1, 0)},
		{matrix(1, 2, -1, -1), matrix(2, 1, 0, 0), matrix(1, 1, 0)},
		{matrix(1, 1, number(1)), matrix(1, 1, 0.25), matrix(1, 1, 0)},
		{matrix(1, 1, number(3)), matrix(1, 1, 0.5), matrix(1, 1, number(2))},
		{filled(12, 12, 1), filled(12, 12, 2), filled(12, 12, 24)},
	}
	for _, c := range cases {
		for name, multiply := range multiplications() {
			got, ok := multiply(c.a, c.b)
			wantMatrix(t, name, got, ok, c.want)
		}
	}
}

func TestMultiplicationsFail(t *testing.T) {
	pairs := [][2]impl.Matrix{
		{matrix(2, 1, 1, 2), matrix(2, 2, 1, 2, 3, 4)}, {matrix(1, 2, 1, 2), matrix(1, 2, 1, 2)}, {matrix(2, 1, 1, 2), matrix(2, 1, 1, 2)},
		{matrix(1, 1, greatest), matrix(1, 1, 2)}, {matrix(1, 2, greatest, greatest), matrix(2, 1, 1, 1)},
		// the infinities are a not-a-number
		{matrix(1, 2, greatest, greatest), matrix(2, 1, 2, -2)}, {matrix(2, 1, 1, greatest), matrix(1, 2, 1, 2)},
	}
	for _, a := range notMatrices() {
		pairs = append(pairs, [2]impl.Matrix{a, matrix(1, 1, 1)}, [2]impl.Matrix{a, matrix(2, 2, 1, 2, 3, 4)}, [2]impl.Matrix{matrix(1, 1, 1), a}, [2]impl.Matrix{matrix(2, 2, 1, 2, 3, 4), a}, [2]impl.Matrix{a, a})
	}
	for _, p := range pairs {
		for name, multiply := range multiplications() {
			got, ok := multiply(p[0], p[1])
			wantNoMatrix(t, name+" "+toldMatrix(p[0])+" and "+toldMatrix(p[1]), got, ok)
		}
	}
	one := matrix(1, 1, 1)
	for _, n := range []int64{0, -1, 13, math.MaxInt64, math.MinInt64, 1 << 32, 1<<32 + 1} {
		got, ok := impl.MulBlocks(one, one, n)
		wantNoMatrix(t, "MulBlocks", got, ok)
		got, ok = impl.MulShared(one, one, n)
		wantNoMatrix(t, "MulShared", got, ok)
	}
	got, ok := impl.MulShared(one, one, 9)
	wantNoMatrix(t, "MulShared by 9", got, ok)
}

// The order of the sums, and the blocks, also those that are not whole.
func TestOrderOfSums(t *testing.T) {
	near := float32(1 + 0x1p-12)
	big := float32(1 << 24)
	ones := filled(5, 1, 1)
	row := matrix(1, 5, big, 1, 1, 1, -big)
	for size, want := range map[int64]float32{1: 0, 2: 2, 3: 1, 4: 0, 5: 0, 6: 0, 12: 0} {
		got, ok := impl.MulBlocks(row, ones, size)
		wantMatrix(t, "blocks of ones", got, ok, matrix(1, 1, want))
	}
	row = matrix(1, 5, big, 1, 1, 1, 1)
	for size, want := range map[int64]float32{1: big, 2: big + 4, 3: big + 2, 4: big, 5: big, 12: big} {
		got, ok := impl.MulBlocks(row, ones, size)
		wantMatrix(t, "blocks that are not whole", got, ok, matrix(1, 1, want))
	}
	// a product is rounded before it is added
	for name, multiply := range multiplications() {
		got, ok := multiply(matrix(1, 2, 1+0x1p-11, near), matrix(2, 1, -1, near))
		wantMatrix(t, name, got, ok, matrix(1, 1, 0))
	}
}

func TestPowerMatrix(t *testing.T) {
	a := matrix(2, 2, 1, 2, 3, 4)
	for power, want := range map[int64]impl.Matrix{0: matrix(2, 2, 1, 0, 0, 1), 1: a, 2: matrix(2, 2, 7, 10, 15, 22), 3: matrix(2, 2, 37, 54, 81, 118), 4: matrix(2, 2, 199, 290, 435, 634)} {
		got, ok := impl.PowerMatrix(a, power)
		wantMatrix(t, "PowerMatrix", got, ok, want)
	}
	got, ok := impl.PowerMatrix(matrix(1, 1, minusZero), 1)
	wantMatrix(t, "the sums begin with +0", got, ok, matrix(1, 1, 0))
	got, ok = impl.PowerMatrix(matrix(1, 1, 0), 0)
	wantMatrix(t, "nothing to the power of 0", got, ok, matrix(1, 1, 1))
	got, ok = impl.PowerMatrix(matrix(1, 1, -2), 63)
	wantMatrix(t, "PowerMatrix to 63", got, ok, matrix(1, 1, -0x1p63))
	got, ok = impl.PowerMatrix(matrix(1, 1, -2), 64)
	wantMatrix(t, "PowerMatrix to 64", got, ok, matrix(1, 1, 0x1p64))
	got, ok = impl.PowerMatrix(filled(12, 12, 1), 2)
	wantMatrix(t, "PowerMatrix of 12", got, ok, filled(12, 12, 12))
	// the square for a further power is made only if there is one
	got, ok = impl.PowerMatrix(matrix(1, 1, 1e30), 1)
	wantMatrix(t, "PowerMatrix to 1", got, ok, matrix(1, 1, 1e30))
	got, ok = impl.PowerMatrix(matrix(1, 1, 1e30), 0)
	wantMatrix(t, "PowerMatrix to 0", got, ok, matrix(1, 1, 1))
	got, ok = impl.PowerMatrix(matrix(1, 1, 4), 63)
	wantMatrix(t, "PowerMatrix of 4 to 63", got, ok, matrix(1, 1, 0x1p126))
}

func TestPowerMatrixFails(t *testing.T) {
	for _, a := range append(notMatrices(), matrix(1, 2, 1, 2), matrix(2, 1, 1, 2), filled(12, 11, 1)) {
		for _, power := range []int64{0, 1, 2, 64} {
			got, ok := impl.PowerMatrix(a, power)
			wantNoMatrix(t, "PowerMatrix "+toldMatrix(a), got, ok)
		}
	}
	for _, power := range []int64{-1, 65, math.MaxInt64, math.MinInt64, 1 << 32} {
		got, ok := impl.PowerMatrix(matrix(1, 1, 1), power)
		wantNoMatrix(t, "PowerMatrix", got, ok)
	}
	for _, power := range []int64{2, 3, 4, 63, 64} {
		got, ok := impl.PowerMatrix(matrix(1, 1, 1e30), power)
		wantNoMatrix(t, "PowerMatrix", got, ok)
	}
	// a result that is not finite, with infinities in a square on the way
	got, ok := impl.PowerMatrix(matrix(1, 1, 4), 64)
	wantNoMatrix(t, "PowerMatrix of 4 to 64", got, ok)
}

func TestTimesVector(t *testing.T) {
	got, ok := impl.TimesVector(matrix(2, 2, 1, 2, 3, 4), []float32{1, 1})
	wantList(t, "TimesVector", got, ok, 3, 7)
	got, ok = impl.TimesVector(matrix(3, 2, 1, 2, 3, 4, 5, 6), []float32{10, -1})
	wantList(t, "TimesVector of 3 rows", got, ok, 8, 26, 44)
	got, ok = impl.TimesVector(matrix(1, 3, 1, 2, 3), []float32{1, 10, 100})
	wantList(t, "TimesVector of 1 row", got, ok, 321)
	got, ok = impl.TimesVector(matrix(2, 1, minusZero, -1), []float32{0})
	wantList(t, "sums begin with +0", got, ok, 0, 0)
	got, ok = impl.TimesVector(matrix(1, 2, 1+0x1p-11, 1+0x1p-12), []float32{-1, 1 + 0x1p-12})
	wantList(t, "products are rounded", got, ok, 0)
	got, ok = impl.TimesVector(filled(12, 12, 2), repeated[float32](3, 12))
	wantList(t, "TimesVector of 12", got, ok, repeated[float32](72, 12)...)
}

func TestTimesVectorFails(t *testing.T) {
	one := matrix(1, 1, 1)
	for _, a := range notMatrices() {
		for _, v := range [][]float32{{1}, {1, 2}, nil, repeated[float32](1, 13)} {
			got, ok := impl.TimesVector(a, v)
			wantNothing(t, "TimesVector "+toldMatrix(a), got, ok)
		}
	}
	for _, v := range notVectors() {
		got, ok := impl.TimesVector(one, v)
		wantNothing(t, "TimesVector", got, ok)
		got, ok = impl.TimesVector(matrix(2, 2, 1, 0, 0, 1), v)
		wantNothing(t, "TimesVector", got, ok)
	}
	for _, c := range []struct {
		a impl.Matrix
		v []float32
	}{
		{one, []float32{1, 2}}, {matrix(1, 2, 1, 2), []float32{1}}, {matrix(2, 1, 1, 2), []float32{1, 2}}, {filled(12, 12, 1), repeated[float32](1, 13)},
		{matrix(2, 1, 1, greatest), []float32{2}}, {matrix(1, 2, greatest, greatest), []float32{2, -2}},
	} {
		got, ok := impl.TimesVector(c.a, c.v)
		wantNothing(t, "TimesVector", got, ok)
	}
}

func TestOuterMatrix(t *testing.T) {
	got, ok := impl.OuterMatrix([]float32{1, 2}, []float32{3, 4})
	wantMatrix(t, "OuterMatrix", got, ok, matrix(2, 2, 3, 4, 6, 8))
	got, ok = impl.OuterMatrix([]float32{1, 2, 3}, []float32{-1, 0})
	wantMatrix(t, "OuterMatrix of 3 and 2", got, ok, matrix(3, 2, -1, 0, -2, 0, -3, 0))
	got, ok = impl.OuterMatrix([]float32{-1}, []float32{0, 2, minusZero})
	wantMatrix(t, "products keep their signs", got, ok, matrix(1, 3, minusZero, -2, 0))
	got, ok = impl.OuterMatrix([]float32{1 + 0x1p-12}, []float32{1 + 0x1p-12})
	wantMatrix(t, "a product is rounded", got, ok, matrix(1, 1, 1+0x1p-11))
	got, ok = impl.OuterMatrix(repeated[float32](2, 12), repeated[float32](3, 12))
	wantMatrix(t, "OuterMatrix of 12", got, ok, filled(12, 12, 6))
	for _, v := range append(notVectors(), repeated[float32](1, 13), repeated[float32](1, 256)) {
		got, ok := impl.OuterMatrix(v, []float32{1})
		wantNoMatrix(t, "OuterMatrix", got, ok)
		got, ok = impl.OuterMatrix([]float32{1}, v)
		wantNoMatrix(t, "OuterMatrix", got, ok)
	}
	got, ok = impl.OuterMatrix([]float32{1, greatest}, []float32{2})
	wantNoMatrix(t, "OuterMatrix with an infinity", got, ok)
}

func TestKroneckerMatrix(t *testing.T) {
	unit := matrix(2, 2, 1, 0, 0, 1)
	got, ok := impl.KroneckerMatrix(matrix(2, 1, 1, -1), unit)
	wantMatrix(t, "KroneckerMatrix", got, ok, matrix(4, 2, 1, 0, 0, 1, -1, minusZero, minusZero, -1))
	got, ok = impl.KroneckerMatrix(matrix(1, 2, 2, 3), matrix(2, 3, 1, 2, 3, 4, 5, 6))
	wantMatrix(t, "KroneckerMatrix of 2 and 6", got, ok, matrix(2, 6, 2, 4, 6, 3, 6, 9, 8, 10, 12, 12, 15, 18))
	got, ok = impl.KroneckerMatrix(matrix(2, 2, 1, 2, 3, 4), matrix(2, 1, 10, 100))
	wantMatrix(t, "KroneckerMatrix of 4 and 2", got, ok, matrix(4, 2, 10, 20, 100, 200, 30, 40, 300, 400))
	got, ok = impl.KroneckerMatrix(matrix(1, 1, 1+0x1p-12), matrix(1, 1, 1+0x1p-12))
	wantMatrix(t, "a product is rounded", got, ok, matrix(1, 1, 1+0x1p-11))
	got, ok = impl.KroneckerMatrix(filled(3, 4, 2), filled(4, 3, 5))
	wantMatrix(t, "KroneckerMatrix of 12", got, ok, filled(12, 12, 10))
	got, ok = impl.KroneckerMatrix(filled(12, 1, 2), filled(1, 12, 5))
	wantMatrix(t, "KroneckerMatrix of a column and a row", got, ok, filled(12, 12, 10))
	for _, p := range [][2]impl.Matrix{
		{filled(13, 1, 1), unit}, {filled(7, 1, 1), unit}, {filled(1, 7, 1), unit}, {filled(12, 12, 1), unit}, {filled(12, 12, 1), filled(12, 12, 1)}, {filled(4, 1, 1), filled(4, 1, 1)},
		{matrix(1, 2, 1, greatest), matrix(1, 1, 2)},
	} {
		got, ok := impl.KroneckerMatrix(p[0], p[1])
		wantNoMatrix(t, "KroneckerMatrix", got, ok)
	}
	for _, a := range notMatrices() {
		got, ok := impl.KroneckerMatrix(a, matrix(1, 1, 1))
		wantNoMatrix(t, "KroneckerMatrix "+toldMatrix(a), got, ok)
		got, ok = impl.KroneckerMatrix(matrix(1, 1, 1), a)
		wantNoMatrix(t, "KroneckerMatrix "+toldMatrix(a), got, ok)
	}
}
