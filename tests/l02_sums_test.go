package tests

import (
	"testing"

	"loop.example/g01327/impl"
)

func TestTraceOf(t *testing.T) {
	big := float32(1 << 24)
	cases := []struct {
		a    impl.Matrix
		want float32
	}{
		{matrix(2, 2, 1, -2, 3, 4), 5}, {matrix(1, 1, minusZero), 0}, {matrix(1, 1, -greatest), -greatest}, {filled(12, 12, 3), 36},
		{matrix(3, 3, big, 9, 9, 9, 1, 9, 9, 9, -big), 0}, {matrix(3, 3, big, 9, 9, 9, -big, 9, 9, 9, 1), 1},
		{matrix(2, 2, 1, greatest, greatest, 2), 3},
	}
	for _, c := range cases {
		got, ok := impl.TraceOf(c.a)
		wantResult(t, "TraceOf "+toldMatrix(c.a), got, ok, c.want)
	}
	for _, a := range append(notMatrices(), matrix(1, 2, 1, 2), matrix(2, 1, 1, 2), filled(12, 11, 1), matrix(2, 2, greatest, 0, 0, greatest), matrix(3, 3, greatest, 0, 0, 0, greatest, 0, 0, 0, -greatest)) {
		got, ok := impl.TraceOf(a)
		wantNoResult(t, "TraceOf "+toldMatrix(a), got, ok)
	}
}

func TestNorms(t *testing.T) {
	big := float32(1 << 24)
	cases := []struct {
		a                  impl.Matrix
		row, column, whole float32
	}{
		{matrix(2, 2, 1, -2, 3, 4), 7, 6, number(0x40af456f)}, {matrix(1, 2, 3, 4), 7, 4, 5}, {matrix(2, 1, -3, -4), 4, 7, 5},
		{matrix(1, 1, minusZero), 0, 0, 0}, {matrix(1, 2, minusZero, minusZero), 0, 0, 0}, {matrix(1, 1, -3), 3, 3, 3},
		{matrix(3, 2, 1, -1, -5, -6, 2, 2), 11, 9, number(0x4106d182)}, {matrix(2, 3, -9, 1, 1, 8, 1, 1), 11, 17, number(0x41434e0d)},
		// sums are rounded in order: 1 is lost behind the great one only
		{matrix(1, 3, big, 1, 1), big, big, big}, {matrix(1, 3, 1, 1, big), big + 2, big, big}, {matrix(3, 1, 1, -1, -big), big, big + 2, big},
		{filled(12, 12, -1), 12, 12, 12}, {matrix(1, 1, greatest), greatest, greatest, 0},
		// the square is too small, but the sums are not
		{matrix(1, 1, 0x1p-100), 0x1p-100, 0x1p-100, 0},
	}
	for _, c := range cases {
		got, ok := impl.RowNorm(c.a)
		wantResult(t, "RowNorm "+toldMatrix(c.a), got, ok, c.row)
		got, ok = impl.ColumnNorm(c.a)
		wantResult(t, "ColumnNorm "+toldMatrix(c.a), got, ok, c.column)
		got, ok = impl.WholeNorm(c.a)
		if c.a.Numbers[0] == greatest {
			wantNoResult(t, "WholeNorm "+toldMatrix(c.a), got, ok)
			continue
		}
		wantResult(t, "WholeNorm "+toldMatrix(c.a), got, ok, c.whole)
	}
}

func TestNormsFail(t *testing.T) {
	for _, a := range notMatrices() {
		got, ok := impl.RowNorm(a)
		wantNoResult(t, "RowNorm "+toldMatrix(a), got, ok)
		got, ok = impl.ColumnNorm(a)
		wantNoResult(t, "ColumnNorm "+toldMatrix(a), got, ok)
		got, ok = impl.WholeNorm(a)
		wantNoResult(t, "WholeNorm "+toldMatrix(a), got, ok)
	}
	row := matrix(2, 2, greatest, -greatest, 1, 1)
	got, ok := impl.RowNorm(row)
	wantNoResult(t, "RowNorm that is not finite", got, ok)
	got, ok = impl.ColumnNorm(row)
	wantResult(t, "ColumnNorm of the same", got, ok, greatest)
	column := matrix(2, 2, 1, greatest, 1, -greatest)
	got, ok = impl.ColumnNorm(column)
	wantNoResult(t, "ColumnNorm that is not finite", got, ok)
	got, ok = impl.RowNorm(column)
	wantResult(t, "RowNorm of the same", got, ok, greatest)
	got, ok = impl.WholeNorm(matrix(1, 2, 0x1.8p63, 0x1.8p63))
	wantNoResult(t, "WholeNorm with a sum that is not finite", got, ok)
	got, ok = impl.WholeNorm(matrix(1, 1, 0x1.8p63))
	wantResult(t, "WholeNorm of a great number", got, ok, 0x1.8p63)
}

func TestDotVectors(t *testing.T) {
	near := float32(1 + 0x1p-12)
	big := float32(1 << 24)
	cases := []struct {
		v, w      []float32
		dot, long float32
	}{
		{[]float32{1, 2}, []float32{3, 4}, 11, 11}, {[]float32{-1}, []float32{0}, 0, 0}, {[]float32{minusZero, minusZero}, []float32{1, 1}, 0, 0},
		// products and sums of 64 bits lose nothing here
		{[]float32{1 + 0x1p-11, near}, []float32{-1, near}, 0, 0x1p-24},
		{[]float32{big, 1, 1}, []float32{1, 1, 1}, big, big + 2}, {[]float32{big, 1, -big}, []float32{1, 1, 1}, 0, 1},
		{[]float32{0x1p-100, 1}, []float32{0x1p-100, 0}, 0, 0}, {[]float32{0x1p-75, 0x1p-75}, []float32{0x1p-75, 0x1p-75}, 0, number(1)},
		{repeated[float32](2, 256), repeated[float32](3, 256), 1536, 1536},
	}
	for _, c := range cases {
		got, ok := impl.DotVectors(c.v, c.w)
		wantResult(t, "DotVectors", got, ok, c.dot)
		got, ok = impl.LongDot(c.v, c.w)
		wantResult(t, "LongDot", got, ok, c.long)
	}
	// a sum that is not finite with 32 bits on its way
	got, ok := impl.LongDot([]float32{greatest, greatest}, []float32{2, -2})
	wantResult(t, "LongDot", got, ok, 0)
	got, ok = impl.LongDot([]float32{greatest, greatest, -greatest}, []float32{1, 1, 1})
	wantResult(t, "LongDot", got, ok, greatest)
	got, ok = impl.DotVectors([]float32{greatest, greatest}, []float32{2, -2})
	wantNoResult(t, "DotVectors", got, ok)
}

func TestDotVectorsFail(t *testing.T) {
	pairs := [][2][]float32{{{1}, {1, 2}}, {{1, 2}, {1}}, {repeated[float32](1, 257), repeated[float32](1, 257)}, {repeated[float32](1, 256), repeated[float32](1, 255)}, {{greatest}, {2}}, {{greatest, greatest}, {1, 1}}, {nil, nil}}
	for _, v := range notVectors() {
		pairs = append(pairs, [2][]float32{v, v}, [2][]float32{v, repeated[float32](1, len(v))}, [2][]float32{repeated[float32](1, len(v)), v}, [2][]float32{v, {1}}, [2][]float32{{1}, v})
	}
	for _, p := range pairs {
		got, ok := impl.DotVectors(p[0], p[1])
		wantNoResult(t, "DotVectors", got, ok)
		got, ok = impl.LongDot(p[0], p[1])
		wantNoResult(t, "LongDot", got, ok)
	}
}

func TestCarrySum(t *testing.T) {
	big := float32(1 << 24)
	cases := []struct {
		v         []float32
		sum, lost float32
	}{
		{[]float32{big, 1, 1}, big + 2, 0}, {[]float32{1}, 1, 0}, {[]float32{1, 2, 3.5}, 6.5, 0},
		// 1 is lost behind the great one, and is brought only by what follows
		{[]float32{big, 1}, big, -1}, {[]float32{big, 1, -big}, 1, 0}, {[]float32{big, 1, 0}, big, -1},
		{[]float32{big, 1, 1, 1}, big + 4, 1}, {[]float32{big, 3}, big + 4, 1}, {[]float32{1, big, -big}, 1, 0},
		{[]float32{1, 0x1p30, -0x1p30}, 0, 0}, // s is less than x: what is lost is not told
		{[]float32{minusZero}, 0, 0}, {[]float32{-1}, -1, 0}, {[]float32{greatest}, greatest, 0},
		{repeated[float32](0.1, 256), number(0x41cccccd), 0}, {repeated[float32](0.1, 255), number(0x41cc0000), number(0xb4cc0000)},
	}
	for _, c := range cases {
		sum, lost, ok := impl.CarrySum(c.v)
		wantResult(t, "CarrySum", sum, ok, c.sum)
		wantResult(t, "what CarrySum lost", lost, ok, c.lost)
	}
	// of the second and the third list added here, the sum is finite, but what is lost is not
	for _, v := range append(notVectors(), []float32{greatest, greatest}, []float32{-0x1.8p104, greatest}, []float32{0x1.8p104, -greatest}, []float32{-greatest, -greatest, greatest}) {
		sum, lost, ok := impl.CarrySum(v)
		wantNoResult(t, "CarrySum", sum, ok)
		wantNoResult(t, "what CarrySum lost", lost, ok)
	}
}
