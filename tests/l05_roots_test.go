package tests

import (
	"fmt"
	"testing"

	"loop.example/g01327/impl"
)

func TestExampleOfSparseRoot(t *testing.T) {
	for name, root := range sparseRoots() {
		got, ok := root(few(1, 4))
		wantSparse(t, name+" of a single 4", got, ok, few(1, 2))
	}
}

func sparseRoots() map[string]func(impl.Sparse) (impl.Sparse, bool) {
	return map[string]func(impl.Sparse) (impl.Sparse, bool){"SparseRoot": impl.SparseRoot, "SparseDrop": impl.SparseDrop}
}

func TestSparseRoot(t *testing.T) {
	five := number(0x400f1bbd)
	middle := func(x float32) impl.Sparse { return fewAt(32, x, func(i, k int64) bool { return i == k }) }
	cases := []struct{ a, root, drop impl.Sparse }{
		{few(3, 4, 2, untold, 2, 5, 2, untold, 2, 2), few(3, 2, untold, untold, 1, 2, untold, untold, 1, 1), few(3, 2, untold, untold, 1, 2, untold, untold, 1, 1)},
		{few(1, number(1)), few(1, 0x1.6a09e6p-75), few(1, 0x1.6a09e6p-75)}, {few(1, greatest), few(1, number(0x5f7fffff)), few(1, number(0x5f7fffff))}, {middle(4), middle(2), middle(2)},
		// a place that is not told is filled, or dropped
		{few(3, 4, 2, 2, 2, 2, untold, 2, untold, 6), few(3, 2, untold, untold, 1, 1, untold, 1, -1, 2), few(3, 2, untold, untold, 1, 1, untold, 1, untold, five)},
		// only numbers up to the middle are taken, as those of both
		{few(3, 4, -99, untold, 2, 2, greatest, 2, untold, 6), few(3, 2, untold, untold, 1, 1, untold, 1, -1, 2), few(3, 2, untold, untold, 1, 1, untold, 1, untold, five)},
		{few(3, 4, 9, 9, untold, 9, 9, untold, untold, 16), few(3, 2, untold, untold, untold, 3, untold, untold, untold, 4), few(3, 2, untold, untold, untold, 3, untold, untold, untold, 4)},
		// places that are told as 0 are told, and fill others
		{few(2, 4, untold, 0, 9), few(2, 2, untold, 0, 3), few(2, 2, untold, 0, 3)}, {few(2, 4, untold, minusZero, 9), few(2, 2, untold, minusZero, 3), few(2, 2, untold, minusZero, 3)},
		{few(3, 4, untold, untold, 0, 9, untold, 2, untold, 2), few(3, 2, untold, untold, 0, 3, untold, 1, 0, 1), few(3, 2, untold, untold, 0, 3, untold, 1, untold, 1)},
		{few(3, 4, untold, untold, 0, 9, untold, 2, minusZero, 2), few(3, 2, untold, untold, 0, 3, untold, 1, minusZero, 1), few(3, 2, untold, untold, 0, 3, untold, 1, minusZero, 1)},
		{few(3, 4, untold, untold, untold, 4, untold, -2, minusZero, 10), few(3, 2, untold, untold, untold, 2, untold, -1, minusZero, 3), few(3, 2, untold, untold, untold, 2, untold, -1, minusZero, 3)},
		// squares that fall apart
		{few(4, 4, untold, untold, 2, untold, 9, untold, untold, untold, 3, 10, untold, 2, untold, untold, 2), few(4, 2, untold, untold, untold, untold, 3, untold, untold, untold, 1, 3, untold, 1, untold, untold, 1), few(4, 2, untold, untold, untold, untold, 3, untold, untold, untold, 1, 3, untold, 1, untold, untold, 1)},
		// products are rounded, and taken away one after another: 1 and 1 are lost
		{few(2, 1, untold, beside, 2+0x1p-11), few(2, 1, untold, beside, 1), few(2, 1, untold, beside, 1)},
		{few(4, 1, untold, untold, untold, untold, 1, untold, untold, 1, 1, 3, untold, 1, 1, -1<<24, 1<<50), few(4, 1, untold, untold, untold, untold, 1, untold, untold, 1, 1, 1, untold, 1, 1, -1<<24, number(0x4bddb3d7)), few(4, 1, untold, untold, untold, untold, 1, untold, untold, 1, 1, 1, untold, 1, 1, -1<<24, number(0x4bddb3d7))},
		// the product would be too small, or too great
		{few(3, 1, untold, untold, 1, 1.5, untold, 1, untold, 1.5), few(3, 1, untold, untold, 1, number(0x3f3504f3), untold, 1, number(0xbfb504f3), untold), few(3, 1, untold, untold, 1, number(0x3f3504f3), untold, 1, untold, number(0x3f3504f3))},
	}
	for i, c := range cases {
		drop, ok := impl.SparseDrop(c.a)
		wantSparse(t, "SparseDrop "+toldSparse(c.a), drop, ok, c.drop)
		root, ok := impl.SparseRoot(c.a)
		if i == len(cases)-1 { // the fill makes what is left in the middle less than 0
			wantNoSparse(t, "SparseRoot "+toldSparse(c.a), root, ok)
			continue
		}
		wantSparse(t, "SparseRoot "+toldSparse(c.a), root, ok, c.root)
	}
}

// noRoots are valid squares that have no root.
func noRoots() []impl.Sparse {
	return []impl.Sparse{
		few(1, -1), few(1, 0), few(1, minusZero), few(2, 1, untold, 1, 1), few(2, 1, untold, 2, 3), few(2, -1, untold, untold, 1), few(2, 1, untold, untold, 0), few(2, 1, untold, beside, 1+0x1p-11), whole(22, 22, 1),
		// a middle that is not told
		nothing(1), nothing(32), few(2, 1, untold, untold, untold), few(2, untold, 7, untold, untold), few(2, untold, untold, 7, 1), few(2, untold, 1, 1, untold), few(3, 1, untold, untold, untold, untold, untold, untold, untold, 1), fewAt(32, 1, func(i, k int64) bool { return i == k && i < 31 }),
		// numbers that are not finite
		few(2, 1e-38, untold, greatest, 1), few(2, 1, untold, 1e20, greatest), few(3, 1, untold, untold, 1e19, 2e38, untold, -1e20, 1, 1), few(3, number(1), untold, untold, greatest, 1, untold, untold, untold, 1),
	}
}

func TestSparseRootFails(t *testing.T) {
	for name, root := range sparseRoots() {
		for _, a := range append(notSparse(), noRoots()...) {
			got, ok := root(a)
			wantNoSparse(t, name+" "+toldSparse(a), got, ok)
		}
	}
	// without the fill, the last number of the middle stays greater than 0
	a := few(3, 1, untold, untold, 1, 2, untold, 1, untold, 2)
	got, ok := impl.SparseRoot(a)
	wantNoSparse(t, "SparseRoot "+toldSparse(a), got, ok)
	got, ok = impl.SparseDrop(a)
	wantSparse(t, "SparseDrop "+toldSparse(a), got, ok, few(3, 1, untold, untold, 1, 1, untold, 1, untold, 1))
}

// nearlyAll returns a square of 32 rows whose root is filled, but for the columns before first
// of its last row.
func nearlyAll(first int64) impl.Sparse {
	a := fewAt(32, 1, func(i, k int64) bool { return i == k || k == 0 && i < 31 || i == 31 && k >= first })
	for i := range a.Side {
		a.Values[a.Starts[i+1]-1] = 64
	}
	return a
}

func TestSparseRootTellsAtMostMaxEntries(t *testing.T) {
	for _, c := range []struct{ first, all int64 }{{31, 497}, {16, 512}, {15, 513}, {0, 528}} {
		a := nearlyAll(c.first)
		_, all, ok := impl.SparseFill(a)
		wantBool(t, "SparseFill", ok && all == c.all, true)
		root, ok := impl.SparseRoot(a)
		if c.all > impl.MaxEntries {
			wantNoSparse(t, fmt.Sprint("SparseRoot with ", c.all), root, ok)
		} else {
			wantBool(t, fmt.Sprint("SparseRoot with ", c.all), ok && impl.ValidSparse(root) && int64(len(root.Values)) == c.all, true)
		}
		drop, ok := impl.SparseDrop(a)
		wantBool(t, "SparseDrop", ok && len(drop.Values) == len(a.Values), true)
	}
	a := fewAt(32, 0, func(i, k int64) bool { return i > k && (i < 31 || k >= 16) || i == k })
	for i := range a.Side {
		a.Values[a.Starts[i+1]-1] = 4
	}
	wantBool(t, "512 places", len(a.Values) == impl.MaxEntries, true)
	for name, root := range sparseRoots() {
		got, ok := root(a)
		want := square(32, a.Starts, a.Columns, a.Values...)
		want.Values = append([]float32{}, a.Values...)
		for i := range a.Side {
			want.Values[a.Starts[i+1]-1] = 2
		}
		wantSparse(t, name+" of 512 places", got, ok, want)
	}
}

func TestSparseRootSolve(t *testing.T) {
	cases := []struct {
		root    impl.Sparse
		b, want []float32
	}{
		{few(3, 2, untold, untold, 1, 2, untold, untold, 1, 1), []float32{6, 9, 4}, []float32{1, 1, 1}}, {few(3, 2, untold, untold, 1, 1, untold, 1, -1, 2), []float32{14, 6, 20}, []float32{1, 2, 3}}, {few(1, 2), []float32{8}, []float32{2}}, {few(1, 2), []float32{minusZero}, []float32{minusZero}},
		{few(2, 2, untold, untold, 4), []float32{8, minusZero}, []float32{2, minusZero}}, {few(2, 2, untold, 0, 4), []float32{8, 16}, []float32{2, 1}}, {few(2, 2, untold, minusZero, 4), []float32{minusZero, -16}, []float32{minusZero, -1}}, {few(1, greatest), []float32{greatest}, []float32{number(0x200000)}},
		{fewAt(32, 2, func(i, k int64) bool { return i == k }), repeated[float32](4, 32), repeated[float32](1, 32)},
		// products are rounded, and taken away one after another
		{few(3, 1, untold, untold, untold, 1, untold, 1, 1, 1), []float32{1, 1, -1 << 24}, []float32{1 << 24, 1 << 24, -1 << 24}}, {few(2, 1, untold, beside, 1), []float32{beside, 1 + 0x1p-11}, []float32{beside, 0}},
		{few(3, 1, untold, untold, 1, 1, untold, 1, untold, 1), []float32{0, 1, -1 << 24}, []float32{1<<24 - 1, 1, -1 << 24}}, // from the last row on
	}
	for _, c := range cases {
		got, ok := impl.SparseRootSolve(c.root, c.b)
		wantList(t, fmt.Sprintf("SparseRootSolve %s, %08x", toldSparse(c.root), toldList(c.b)), got, ok, c.want...)
	}
}

// wrongRoots are valid squares of 2 rows that are no roots.
func wrongRoots() []impl.Sparse {
	return []impl.Sparse{
		few(2, 1, 1, untold, 1), few(2, 1, 0, 1, 1), few(2, 1, minusZero, untold, 1), nothing(2), few(2, 1, untold, 1, untold), few(2, untold, untold, 1, 1), few(2, untold, 1, 1, untold), few(2, untold, 1, untold, 1), few(2, 1, untold, 1, 0), few(2, 0, untold, 1, 1),
		few(2, 1, untold, 1, minusZero), few(2, minusZero, untold, 1, 1), few(2, 1, untold, 1, -1), few(2, -1, untold, 1, 1), few(2, 1, untold, untold, -number(1)),
	}
}

func TestSparseRootSolveFails(t *testing.T) {
	check := func(root impl.Sparse, b []float32) {
		t.Helper()
		got, ok := impl.SparseRootSolve(root, b)
		wantNothing(t, fmt.Sprintf("SparseRootSolve %s, %08x", toldSparse(root), toldList(b)), got, ok)
	}
	for _, a := range notSparse() {
		check(a, []float32{1})
		check(a, []float32{1, 2})
		check(a, repeated[float32](1, 33))
	}
	for _, a := range wrongRoots() {
		check(a, []float32{1, 2})
		check(a, []float32{0, 0})
	}
	for _, b := range notPairs() {
		check(few(2, 1, untold, 1, 1), b)
	}
	check(nothing(32), repeated[float32](1, 32))
	// numbers become such that are not finite, in either direction
	check(few(1, number(1)), []float32{1})
	check(few(1, 0.5), []float32{greatest})
	check(few(1, 1e-20), []float32{1})
	check(few(2, 1, untold, greatest, 1), []float32{2, 0})
	check(few(2, 1, untold, greatest, greatest), []float32{1, -greatest})
	check(few(2, 1, untold, 1e20, 1e-15), []float32{1, 1e10})
	check(few(2, 1, untold, 1e20, 1), []float32{1, 3e20})
}
