package tests

import (
	"fmt"
	"math"
	"testing"

	"loop.example/g01327/impl"
)

// beside is how far a product of this number and itself is from a 32-bit number.
const beside = 1 + 0x1p-12

// goodSparse are valid squares, of all sides and kinds.
func goodSparse() []impl.Sparse {
	return []impl.Sparse{
		nothing(1), nothing(2), nothing(32), few(1, 5), few(1, 0), few(1, minusZero), few(2, untold, 7, untold, untold), few(2, 1, 2, 3, 4), few(2, untold, untold, -greatest, number(1)),
		few(3, untold, untold, 1, untold, untold, untold, 2, untold, untold), square(2, []int64{0, 0, 0}, []int64{}), whole(22, 22, 1), whole(32, 16, minusZero), // up to 484 and 512 numbers
		fewAt(32, 1, func(i, k int64) bool { return i >= k && (i > 15 || k == 0) }), fewAt(32, greatest, func(i, k int64) bool { return i == k }),
	}
}

func entry(row, column int64, x float32) impl.Entry {
	return impl.Entry{Row: row, Column: column, Value: x}
}

func TestValidSparse(t *testing.T) {
	for _, a := range goodSparse() {
		wantBool(t, "ValidSparse "+toldSparse(a), impl.ValidSparse(a), true)
	}
	for _, a := range notSparse() {
		wantBool(t, "ValidSparse "+toldSparse(a), impl.ValidSparse(a), false)
	}
}

func TestSameSparse(t *testing.T) {
	all := append(goodSparse(), notSparse()...)
	for _, a := range all {
		for _, b := range all {
			wantBool(t, "SameSparse "+toldSparse(a)+" and "+toldSparse(b), impl.SameSparse(a, b), toldSparse(a) == toldSparse(b))
		}
	}
	cases := []struct {
		a, b impl.Sparse
		want bool
	}{
		{few(1, 0), few(1, minusZero), false}, {few(1, 0), nothing(1), false}, {few(1, 5), few(1, 6), false}, {few(2, 5, untold, untold, untold), few(2, untold, 5, untold, untold), false},
		{few(2, 5, untold, untold, untold), few(2, untold, untold, 5, untold), false}, {nothing(1), nothing(2), false}, {few(1, 5), square(1, []int64{0, 1}, []int64{0}), false},
		{impl.Sparse{}, square(0, []int64{}, []int64{}, []float32{}...), true}, {square(9, []int64{3}, nil), square(9, []int64{3}, []int64{}), true}, {square(9, []int64{3}, nil), square(9, []int64{3, 3}, nil), false}, {square(9, nil, []int64{1}), square(8, nil, []int64{1}), false},
		{square(1, nil, nil, number(0xff800001)), square(1, nil, nil, number(noNumberBits)), true}, {square(1, nil, nil, infinite), square(1, nil, nil, -infinite), false}, {square(1, nil, nil, 1, 2), square(1, nil, nil, 1), false},
	}
	for _, c := range cases {
		wantBool(t, "SameSparse "+toldSparse(c.a)+" and "+toldSparse(c.b), impl.SameSparse(c.a, c.b), c.want)
		wantBool(t, "SameSparse "+toldSparse(c.b)+" and "+toldSparse(c.a), impl.SameSparse(c.b, c.a), c.want)
	}
}

func TestExampleOfEntries(t *testing.T) {
	got, ok := impl.SparseFrom(1, []impl.Entry{entry(0, 0, 2), entry(0, 0, 3)})
	wantSparse(t, "SparseFrom 0, 0, 2 and 0, 0, 3", got, ok, few(1, 5))
}

// entriesIn returns entries of 1, row by row.
func entriesIn(side int64, count int) []impl.Entry {
	list := make([]impl.Entry, count)
	for i := range list {
		list[i] = entry(int64(i)/side, int64(i)%side, 1)
	}
	return list
}

func TestSparseFrom(t *testing.T) {
	cases := []struct {
		side    int64
		entries []impl.Entry
		want    impl.Sparse
	}{
		{1, nil, nothing(1)}, {32, []impl.Entry{}, nothing(32)}, {3, []impl.Entry{entry(2, 0, 4)}, few(3, untold, untold, untold, untold, untold, untold, 4, untold, untold)},
		{2, []impl.Entry{entry(1, 1, 4), entry(1, 0, 3), entry(0, 1, 2), entry(0, 0, 1)}, few(2, 1, 2, 3, 4)},
		{2, []impl.Entry{entry(1, 0, 4), entry(0, 1, 1), entry(1, 0, -1), entry(0, 1, 0.5)}, few(2, untold, 1.5, 3, untold)},
		// places with the sum 0 stay told, and sums begin with +0
		{2, []impl.Entry{entry(0, 1, 2), entry(0, 1, -2)}, few(2, untold, 0, untold, untold)}, {1, []impl.Entry{entry(0, 0, 0)}, few(1, 0)}, {1, []impl.Entry{entry(0, 0, minusZero)}, few(1, 0)}, {1, repeated(entry(0, 0, minusZero), 2), few(1, 0)},
		// they are added in order
		{1, []impl.Entry{entry(0, 0, 1<<24), entry(0, 0, 1), entry(0, 0, 1)}, few(1, 1<<24)}, {1, []impl.Entry{entry(0, 0, 1), entry(0, 0, 1), entry(0, 0, 1<<24)}, few(1, 1<<24+2)},
		{1, []impl.Entry{entry(0, 0, greatest), entry(0, 0, -greatest), entry(0, 0, greatest)}, few(1, greatest)}, {1, []impl.Entry{entry(0, 0, number(1)), entry(0, 0, number(1))}, few(1, number(2))},
		{1, repeated(entry(0, 0, 1), impl.MaxEntries), few(1, 512)}, {32, entriesIn(32, impl.MaxEntries), whole(32, 16, 1)}, {32, []impl.Entry{entry(31, 31, 1), entry(0, 0, 1)}, fewAt(32, 1, func(i, k int64) bool { return i == k && i%31 == 0 })},
	}
	for _, c := range cases {
		got, ok := impl.SparseFrom(c.side, c.entries)
		wantSparse(t, fmt.Sprint("SparseFrom ", c.side, c.entries), got, ok, c.want)
	}
}

func TestSparseFromFails(t *testing.T) {
	check := func(side int64, entries ...impl.Entry) {
		t.Helper()
		got, ok := impl.SparseFrom(side, entries)
		wantNoSparse(t, fmt.Sprint("SparseFrom ", side, entries), got, ok)
	}
	for _, side := range []int64{0, -1, 33, math.MinInt64, math.MaxInt64, 1 << 32} {
		check(side)
		check(side, entry(0, 0, 1))
	}
	for _, n := range []int64{-1, 3, 32, math.MinInt64, math.MaxInt64, 1 << 32} {
		check(3, entry(n, 0, 1))
		check(3, entry(0, n, 1))
		check(3, entry(0, 0, 1), entry(2, n, 1))
		check(3, entry(n, 2, 0), entry(0, 0, 1))
	}
	check(1, entry(1, 0, 1))
	check(32, entry(0, 32, 1))
	for _, x := range notFinite() {
		check(2, entry(0, 0, x))
		check(2, entry(0, 0, 1), entry(1, 1, x), entry(1, 1, -x))
	}
	check(1, entry(0, 0, greatest), entry(0, 0, greatest))
	check(1, entry(0, 0, greatest), entry(0, 0, greatest), entry(0, 0, -greatest))
	check(1, repeated(entry(0, 0, 1), impl.MaxEntries+1)...)
	check(32, repeated(entry(31, 31, 0), impl.MaxEntries+1)...)
	check(32, entriesIn(32, impl.MaxEntries+1)...)
}

func TestEntriesOf(t *testing.T) {
	told := func(list []impl.Entry) string {
		out := ""
		for _, e := range list {
			out += fmt.Sprintf("%d %d %s, ", e.Row, e.Column, toldText(e.Value))
		}
		return out
	}
	cases := []struct {
		a    impl.Sparse
		want []impl.Entry
	}{
		{nothing(1), nil}, {nothing(32), nil}, {few(1, 5), []impl.Entry{entry(0, 0, 5)}}, {few(1, 0), []impl.Entry{entry(0, 0, 0)}}, {few(1, minusZero), []impl.Entry{entry(0, 0, minusZero)}},
		{few(3, untold, 2, 1, untold, untold, untold, 3, 0, untold), []impl.Entry{entry(0, 1, 2), entry(0, 2, 1), entry(2, 0, 3), entry(2, 1, 0)}}, {whole(32, 16, 1), entriesIn(32, 512)},
	}
	for _, c := range cases {
		got, ok := impl.EntriesOf(c.a)
		wantBool(t, "EntriesOf "+toldSparse(c.a), ok && told(got) == told(c.want), true)
	}
	for _, a := range notSparse() {
		got, ok := impl.EntriesOf(a)
		wantNothing(t, "EntriesOf "+toldSparse(a), got, ok)
	}
}

func TestSparseAt(t *testing.T) {
	numbers := []float32{untold, 2, minusZero, untold, untold, untold, 0, untold, 9}
	a := few(3, numbers...)
	for i, x := range numbers {
		if told(x) == noNumberBits {
			x = 0
		}
		got, ok := impl.SparseAt(a, int64(i/3), int64(i%3))
		wantResult(t, fmt.Sprint("SparseAt ", i/3, i%3), got, ok, x)
	}
	got, ok := impl.SparseAt(whole(32, 16, 3), 15, 31)
	wantResult(t, "SparseAt 15 31", got, ok, 3)
	got, ok = impl.SparseAt(whole(32, 16, 3), 31, 31)
	wantResult(t, "SparseAt 31 31", got, ok, 0)
	for _, n := range []int64{-1, 3, 32, math.MinInt64, math.MaxInt64, 1 << 32} {
		for k := range int64(3) {
			got, ok = impl.SparseAt(a, n, k)
			wantNoResult(t, fmt.Sprint("SparseAt ", n, k), got, ok)
			got, ok = impl.SparseAt(a, k, n)
			wantNoResult(t, fmt.Sprint("SparseAt ", k, n), got, ok)
		}
	}
	for _, a := range notSparse() {
		got, ok = impl.SparseAt(a, 0, 0)
		wantNoResult(t, "SparseAt "+toldSparse(a), got, ok)
	}
}

func TestSparseFlip(t *testing.T) {
	cases := []struct{ a, want impl.Sparse }{
		{few(2, untold, 7, untold, untold), few(2, untold, untold, 7, untold)}, {few(1, 5), few(1, 5)}, {nothing(1), nothing(1)}, {nothing(32), nothing(32)}, {few(2, 1, 2, 3, 4), few(2, 1, 3, 2, 4)},
		{few(3, 0, minusZero, 1, untold, untold, untold, 5, untold, 4), few(3, 0, untold, 5, minusZero, untold, untold, 1, untold, 4)},
		{whole(32, 16, 2), fewAt(32, 2, func(i, k int64) bool { return k < 16 })},
	}
	for _, c := range cases {
		got, ok := impl.SparseFlip(c.a)
		wantSparse(t, "SparseFlip "+toldSparse(c.a), got, ok, c.want)
		got, ok = impl.SparseFlip(c.want)
		wantSparse(t, "SparseFlip "+toldSparse(c.want), got, ok, c.a)
	}
	for _, a := range notSparse() {
		got, ok := impl.SparseFlip(a)
		wantNoSparse(t, "SparseFlip "+toldSparse(a), got, ok)
	}
}

// sparseProducts are the functions that tell a square times a vector.
func sparseProducts() map[string]func(impl.Sparse, []float32) ([]float32, bool) {
	list := map[string]func(impl.Sparse, []float32) ([]float32, bool){"SparseTimes": impl.SparseTimes}
	for workers := int64(1); workers <= impl.MaxCrew; workers++ {
		list[fmt.Sprint("SparseShared by ", workers)] = func(a impl.Sparse, v []float32) ([]float32, bool) {
			return impl.SparseShared(a, v, workers)
		}
	}
	return list
}

func TestSparseTimes(t *testing.T) {
	cases := []struct {
		a       impl.Sparse
		v, want []float32
	}{
		{few(3, 4, 2, untold, 2, 5, 2, untold, 2, 2), []float32{1, 1, 1}, []float32{6, 9, 4}}, {few(2, 1, 2, 3, 4), []float32{5, 6}, []float32{17, 39}}, {few(2, untold, 2, untold, untold), []float32{5, 6}, []float32{12, 0}},
		{nothing(1), []float32{greatest}, []float32{0}}, {nothing(32), repeated(-greatest, 32), repeated[float32](0, 32)}, {whole(32, 16, 1), repeated[float32](3, 32), append(repeated[float32](96, 16), repeated[float32](0, 16)...)},
		// sums begin with +0
		{few(1, minusZero), []float32{1}, []float32{0}}, {few(2, 0, minusZero, 1, untold), []float32{minusZero, 1}, []float32{0, 0}}, {few(1, -1), []float32{0}, []float32{0}},
		// they go in order, and products are rounded before they are added
		{few(3, 1, 1, 1<<24, 1<<24, 1, 1, 1, 1<<24, 1), []float32{1, 1, 1}, []float32{1<<24 + 2, 1 << 24, 1 << 24}}, {few(2, -1-0x1p-11, beside, untold, untold), []float32{1, beside}, []float32{0, 0}},
		{few(2, greatest, -greatest, untold, greatest), []float32{1, 1}, []float32{0, greatest}}, {few(1, number(1)), []float32{0.5}, []float32{0}}, {few(1, number(3)), []float32{0.5}, []float32{number(2)}},
	}
	for name, times := range sparseProducts() {
		for _, c := range cases {
			got, ok := times(c.a, c.v)
			wantList(t, fmt.Sprintf("%s, %s, %08x", name, toldSparse(c.a), toldList(c.v)), got, ok, c.want...)
		}
	}
}

func TestSparseTimesFails(t *testing.T) {
	for name, times := range sparseProducts() {
		check := func(a impl.Sparse, v []float32) {
			t.Helper()
			got, ok := times(a, v)
			wantNothing(t, fmt.Sprintf("%s, %s, %08x", name, toldSparse(a), toldList(v)), got, ok)
		}
		for _, a := range notSparse() {
			check(a, []float32{1})
			check(a, []float32{1, 2})
			check(a, repeated[float32](1, 32))
			check(a, repeated[float32](1, 33))
		}
		for _, v := range notPairs() {
			check(few(2, 1, 2, 3, 4), v)
			check(nothing(2), v)
		}
		check(nothing(32), repeated[float32](1, 31))
		check(nothing(32), repeated[float32](1, 33))
		// a product or a sum is not finite
		check(few(1, greatest), []float32{2})
		check(few(2, 1, untold, greatest, greatest), []float32{1, 1})
		check(few(3, greatest, greatest, -greatest, untold, untold, untold, untold, untold, untold), []float32{1, 1, 1})
		check(few(2, 1e20, 1e20, untold, untold), []float32{1e20, -1e20})
	}
	for _, workers := range []int64{0, -1, 9, math.MinInt64, math.MaxInt64, 1 << 32} {
		got, ok := impl.SparseShared(few(1, 5), []float32{1}, workers)
		wantNothing(t, fmt.Sprint("SparseShared by ", workers), got, ok)
	}
}

func TestSparseWeigh(t *testing.T) {
	a, b := few(2, 5, 2, untold, untold), few(2, 5, untold, 3, untold)
	cases := []struct {
		a, b impl.Sparse
		x, y float32
		want impl.Sparse
	}{
		{few(1, 5), few(1, 5), 1, 2, few(1, 15)}, {a, b, 1, 2, few(2, 15, 2, 6, untold)}, {a, b, -1, 0.5, few(2, -2.5, -2, 1.5, untold)}, {a, nothing(2), 3, 4, few(2, 15, 6, untold, untold)}, {nothing(2), a, 3, 4, few(2, 20, 8, untold, untold)}, {nothing(32), nothing(32), 1, 1, nothing(32)},
		// places stay told where the sum is 0
		{a, a, 1, -1, few(2, 0, 0, untold, untold)}, {a, b, 0, 0, few(2, 0, 0, 0, untold)}, {few(1, 0), nothing(1), 1, 1, few(1, 0)},
		// a number that is not told is +0, whose product has the sign of the factor
		{few(1, 0), nothing(1), -1, 1, few(1, 0)}, {few(1, minusZero), nothing(1), 1, 0, few(1, 0)}, {few(1, minusZero), nothing(1), 1, -1, few(1, minusZero)}, {nothing(1), few(1, minusZero), minusZero, 5, few(1, minusZero)}, {few(1, minusZero), few(1, minusZero), 1, 1, few(1, minusZero)},
		{few(1, 5), few(1, -5), 0, minusZero, few(1, 0)}, {few(1, 1e-30), nothing(1), 1e-30, -1, few(1, 0)},
		// both products are rounded before they are added
		{few(1, beside), few(1, -1-0x1p-11), beside, 1, few(1, 0)}, {few(1, -1-0x1p-11), few(1, beside), 1, beside, few(1, 0)}, {few(1, greatest), few(1, greatest), 1, -1, few(1, 0)},
		{whole(32, 16, 1), whole(32, 16, 2), 1, 1, whole(32, 16, 3)}, {whole(32, 8, 1), fewAt(32, 1, func(i, k int64) bool { return i >= 24 }), 1, 1, fewAt(32, 1, func(i, k int64) bool { return i < 8 || i >= 24 })},
	}
	for _, c := range cases {
		got, ok := impl.SparseWeigh(c.a, c.b, c.x, c.y)
		wantSparse(t, fmt.Sprint("SparseWeigh ", toldSparse(c.a), toldSparse(c.b), c.x, c.y), got, ok, c.want)
	}
}

func TestSparseWeighFails(t *testing.T) {
	check := func(a, b impl.Sparse, x, y float32) {
		t.Helper()
		got, ok := impl.SparseWeigh(a, b, x, y)
		wantNoSparse(t, fmt.Sprint("SparseWeigh ", toldSparse(a), toldSparse(b), x, y), got, ok)
	}
	for _, a := range notSparse() {
		check(a, few(1, 5), 1, 1)
		check(few(1, 5), a, 1, 1)
		check(a, a, 0, 0)
	}
	check(nothing(1), nothing(2), 1, 1)
	check(nothing(32), nothing(31), 1, 1)
	for _, x := range notFinite() {
		check(nothing(1), nothing(1), x, 1)
		check(nothing(1), nothing(1), 1, x)
	}
	// a product or a sum is not finite
	check(few(1, greatest), nothing(1), 2, 0)
	check(few(1, greatest), few(1, greatest), 1, 1)
	check(few(1, greatest), few(1, greatest), 2, -2)
	check(few(2, 1, untold, untold, untold), few(2, untold, untold, untold, greatest), 1, -2)
	// 513 places
	check(whole(32, 16, 1), fewAt(32, 1, func(i, k int64) bool { return i == 31 && k == 31 }), 1, 0)
	check(whole(32, 8, 1), fewAt(32, 1, func(i, k int64) bool { return i >= 24 || i == 8 && k == 0 }), 0, 0)
}

func TestSparseMul(t *testing.T) {
	up := few(2, untold, 7, untold, untold)
	first := func(count int64) impl.Sparse {
		return fewAt(32, 2, func(i, k int64) bool { return i == 0 && k < count })
	}
	column := fewAt(32, 3, func(i, k int64) bool { return k == 0 })
	cases := []struct{ a, b, want impl.Sparse }{
		{up, few(2, untold, untold, 7, untold), few(2, 49, untold, untold, untold)}, {few(2, 1, 2, 3, 4), few(2, 1, 2, 3, 4), few(2, 7, 10, 15, 22)}, {up, up, nothing(2)}, {nothing(32), whole(32, 16, 1), nothing(32)}, {whole(32, 16, 1), nothing(32), nothing(32)}, {few(1, -3), few(1, 4), few(1, -12)},
		// all these places are told, also with the sum 0, which begins with +0
		{few(1, 0), few(1, 5), few(1, 0)}, {few(1, minusZero), few(1, 1), few(1, 0)}, {few(2, 1, 1, untold, untold), few(2, 1, 0, -1, untold), few(2, 0, 0, untold, untold)}, {few(1, 1e-30), few(1, -1e-30), few(1, 0)},
		// sums go in the order of the row of a, and products are rounded before they are added
		{few(3, 1, 1, 1, untold, untold, untold, untold, untold, untold), few(3, 1<<24, 1, untold, 1, 1, untold, 1, 1<<24, untold), few(3, 1<<24, 1<<24+2, untold, untold, untold, untold, untold, untold, untold)},
		{few(2, 1, beside, untold, untold), few(2, -1-0x1p-11, untold, beside, untold), few(2, 0, untold, untold, untold)}, {few(2, greatest, 1, untold, untold), few(2, 1, untold, -greatest, untold), few(2, 0, untold, untold, untold)},
		{column, first(16), fewAt(32, 6, func(i, k int64) bool { return k < 16 })}, {whole(32, 16, 1), fewAt(32, 1, func(i, k int64) bool { return i == k }), whole(32, 16, 1)},
	}
	for _, c := range cases {
		got, ok := impl.SparseMul(c.a, c.b)
		wantSparse(t, "SparseMul "+toldSparse(c.a)+" and "+toldSparse(c.b), got, ok, c.want)
	}
	check := func(a, b impl.Sparse) {
		t.Helper()
		got, ok := impl.SparseMul(a, b)
		wantNoSparse(t, "SparseMul "+toldSparse(a)+" and "+toldSparse(b), got, ok)
	}
	for _, a := range notSparse() {
		check(a, few(1, 5))
		check(few(1, 5), a)
		check(a, a)
	}
	check(nothing(1), nothing(2))
	check(nothing(32), nothing(31))
	check(few(1, greatest), few(1, 2))
	check(few(2, greatest, greatest, untold, untold), few(2, 1, untold, 1, untold))
	check(few(2, 1e20, 1e20, untold, untold), few(2, 1e20, untold, -1e20, untold))
	check(few(3, 1, 1, 1, untold, untold, untold, untold, untold, untold), few(3, greatest, untold, untold, greatest, untold, untold, -greatest, untold, untold))
	// 544 and 513 places
	check(column, first(17))
	check(fewAt(32, 1, func(i, k int64) bool { return k == 0 || i == 0 && k == 1 }), fewAt(32, 1, func(i, k int64) bool { return i == 0 && k < 16 || i == 1 && k == 31 }))
}

func TestSparseBand(t *testing.T) {
	cases := []struct {
		a    impl.Sparse
		want int64
	}{
		{nothing(1), 0}, {nothing(32), 0}, {few(1, 5), 0}, {few(2, 1, untold, untold, 1), 0}, {few(2, untold, 7, untold, untold), 1}, {few(2, untold, untold, 7, untold), 1}, {few(3, 4, 2, untold, 2, 5, 2, untold, 2, 2), 1},
		{few(3, 1, untold, 0, untold, 1, untold, untold, untold, 1), 2}, {few(3, 1, untold, untold, 1, 1, untold, minusZero, untold, 1), 2}, {few(3, untold, 1, untold, untold, untold, untold, 1, untold, untold), 2}, {few(3, untold, untold, 1, 1, untold, untold, untold, untold, untold), 2},
		{whole(32, 1, 1), 31}, {fewAt(32, 1, func(i, k int64) bool { return i == 31 && k == 0 }), 31}, {fewAt(32, 1, func(i, k int64) bool { return i == 30 && k == 7 }), 23},
	}
	for _, c := range cases {
		got, ok := impl.SparseBand(c.a)
		wantBool(t, "SparseBand "+toldSparse(c.a), ok && got == c.want, true)
	}
	for _, a := range notSparse() {
		got, ok := impl.SparseBand(a)
		wantBool(t, "SparseBand "+toldSparse(a), !ok && got == 0, true)
	}
}
