package tests

import (
	"fmt"
	"math"
	"slices"
	"testing"

	"loop.example/g01327/impl"
)

// longDense returns all numbers of a square, 0 where none is told.
func longDense(a impl.Sparse) impl.Matrix {
	numbers := dense(a)
	for i, x := range numbers {
		if x != x {
			numbers[i] = 0
		}
	}
	return matrix(a.Side, a.Side, numbers...)
}

func flippedSparse(t *testing.T, a impl.Sparse) impl.Sparse {
	t.Helper()
	flip, ok := impl.SparseFlip(a)
	wantBool(t, "SparseFlip", ok, true)
	return flip
}

// tells reports whether a tells a number in a place.
func tells(a impl.Sparse, i, k int64) bool {
	return slices.Contains(a.Columns[a.Starts[i]:a.Starts[i+1]], k)
}

// P6: roots of sparse squares make them again, nearly.
func TestPromise6Roots(t *testing.T) {
	for side := int64(1); side <= 32; side++ {
		for seed := range int64(10) {
			a := sparseInputs(int(seed%2), side, 100*side+seed).firm
			numbers := longDense(a)
			root, ok := impl.SparseRoot(a)
			wantBool(t, "SparseRoot", ok && impl.ValidSparse(root), true)
			flip := flippedSparse(t, root)
			wantNear(t, "a root makes its square", longProduct(longDense(root), longDense(flip)), numbers.Numbers, 2e-6*float64(side))
			if product, ok := impl.SparseMul(root, flip); ok { // it may tell too many
				wantNear(t, "SparseMul", widened(longDense(product).Numbers), numbers.Numbers, 4e-6*float64(side))
			}
			drop, ok := impl.SparseDrop(a)
			wantBool(t, "SparseDrop", ok && impl.ValidSparse(drop), true)
			again := longProduct(longDense(drop), longDense(flippedSparse(t, drop)))
			for i := range side {
				for k := range i + 1 {
					wantBool(t, "a drop tells what the square tells", tells(drop, i, k) == tells(a, i, k), true)
					if tells(a, i, k) {
						wantClose(t, "a drop makes what is told", again[i*side+k], float64(numbers.Numbers[i*side+k]), 2e-6*float64(side))
					}
				}
			}
		}
	}
}

func widened(list []float32) []float64 {
	wide := make([]float64, len(list))
	for i, x := range list {
		wide[i] = float64(x)
	}
	return wide
}

// P6: the fill of roots is foreseen exactly, and so is their tree.
func TestPromise6Fill(t *testing.T) {
	for side := int64(1); side <= 32; side++ {
		for seed := range int64(10) {
			a := sparseInputs(int(seed%2), side, 100*side+seed).firm
			root, ok := impl.SparseRoot(a)
			counts, all, ok2 := impl.SparseFill(a)
			tree, ok3 := impl.SparseTree(a)
			wantBool(t, "SparseRoot, SparseFill and SparseTree", ok && ok2 && ok3 && all == int64(len(root.Values)), true)
			columns := flippedSparse(t, root)
			for k := range side {
				rows := columns.Columns[columns.Starts[k]:columns.Starts[k+1]]
				wantBool(t, "the count of a column", counts[k] == int64(len(rows)) && rows[0] == k, true)
				parent := int64(-1)
				if len(rows) > 1 {
					parent = rows[1]
				}
				wantBool(t, "the parent of a row", tree[k] == parent, true)
			}
			drop, _ := impl.SparseDrop(a)
			wantBool(t, "a drop without fill is the root", impl.SameSparse(drop, root) || len(drop.Values) < len(root.Values), true)
		}
	}
}

// P6: any number of workers multiplies the same, to the last bit.
func TestPromise6Workers(t *testing.T) {
	for side := int64(1); side <= 32; side++ {
		for seed := range int64(6) {
			in := sparseInputs(int(seed%3), side, 100*side+seed)
			want := make([]float32, side)
			for i := range side {
				for n := in.a.Starts[i]; n < in.a.Starts[i+1]; n++ {
					want[i] += float32(in.a.Values[n] * in.v[in.a.Columns[n]])
				}
			}
			for name, times := range sparseProducts() {
				got, ok := times(in.a, in.v)
				wantList(t, name, got, ok, want...)
			}
		}
	}
}

// P6: squares of few rows are reckoned with as matrices are, to the last bit.
func TestPromise6Matrices(t *testing.T) {
	for side := int64(1); side <= impl.MaxSide; side++ {
		for seed := range int64(12) {
			in := sparseInputs(int(seed%3), side, 100*side+seed)
			a, b := longDense(in.a), longDense(in.b)
			want, ok := impl.TimesVector(a, in.v)
			wantBool(t, "TimesVector", ok, true)
			got, ok := impl.SparseTimes(in.a, in.v)
			wantList(t, "SparseTimes", got, ok, want...)
			product, ok := impl.SparseMul(in.a, in.b)
			dense, ok2 := impl.MulMatrices(a, b)
			wantMatrix(t, "SparseMul", longDense(product), ok && ok2, dense)
			flip, ok := impl.SparseFlip(in.a)
			dense, ok2 = impl.FlipMatrix(a)
			wantMatrix(t, "SparseFlip", longDense(flip), ok && ok2, dense)
			sum, ok := impl.SparseWeigh(in.a, in.b, in.x, in.y)
			dense, ok2 = impl.WeighMatrices(a, b, in.x, in.y)
			wantBool(t, "SparseWeigh", ok && ok2, true)
			for i := range side {
				for k := range side {
					told := tells(in.a, i, k) || tells(in.b, i, k)
					wantBool(t, "SparseWeigh tells what one of both tells", tells(sum, i, k) == told, true)
					if x, ok := impl.SparseAt(sum, i, k); told {
						wantResult(t, "SparseAt", x, ok, dense.Numbers[i*side+k])
					}
				}
			}
		}
	}
}

// P6: orders lead back, and hold each row once.
func TestPromise6Orders(t *testing.T) {
	for side := int64(1); side <= 32; side++ {
		for seed := range int64(6) {
			in := sparseInputs(int(seed%3), side, 100*side+seed)
			breadth, ok := impl.SparseBreadth(in.a)
			least, ok2 := impl.SparseLeast(in.a)
			wantBool(t, "SparseBreadth and SparseLeast", ok && ok2, true)
			for _, order := range [][]int64{in.list, breadth, least} {
				wantBool(t, "each row is once", slices.Equal(slices.Sorted(slices.Values(order)), sequence(0, side)), true)
				turned, ok := impl.SparseOrder(in.a, order)
				wantBool(t, "SparseOrder", ok && len(turned.Values) == len(in.a.Values), true)
				for i := range side {
					for k := range side {
						x, ok := impl.SparseAt(turned, i, k)
						want, ok2 := impl.SparseAt(in.a, order[i], order[k])
						wantResult(t, "SparseAt", x, ok && ok2, want)
					}
				}
				back := make([]int64, side)
				for i, n := range order {
					back[n] = int64(i)
				}
				again, ok := impl.SparseOrder(turned, back)
				wantSparse(t, "SparseOrder back", again, ok, in.a)
			}
			entries, ok := impl.EntriesOf(in.a)
			slices.Reverse(entries)
			again, ok2 := impl.SparseFrom(side, entries)
			plain := square(side, in.a.Starts, in.a.Columns, slices.Clone(in.a.Values)...)
			for i := range plain.Values {
				plain.Values[i] += 0 // sums are no -0
			}
			wantSparse(t, "SparseFrom EntriesOf", again, ok && ok2, plain)
		}
	}
}

// P6: what is solved makes nearly what it was told of.
func TestPromise6Solves(t *testing.T) {
	for side := int64(1); side <= 32; side++ {
		for seed := range int64(10) {
			in := sparseInputs(0, side, 100*side+seed)
			norm := func(x []float32) float64 {
				left := longProduct(longDense(in.firm), column(x))
				for i := range left {
					left[i] -= float64(in.v[i])
				}
				return longNorm(narrowed(left))
			}
			root, _ := impl.SparseRoot(in.firm)
			drop, _ := impl.SparseDrop(in.firm)
			x, ok := impl.SparseRootSolve(root, in.v)
			wantBool(t, fmt.Sprint("SparseRootSolve misses ", norm(x)), ok && norm(x) < 1e-5, true)
			x, rounds, ok := impl.SparseRounds(in.firm, in.v, 1, 1e-3, impl.MaxSolves)
			if ok { // rounds may come too slowly
				wantBool(t, fmt.Sprint("SparseRounds misses ", norm(x)), norm(x) < 1.1e-3 && rounds >= 1 && rounds <= impl.MaxSolves, true)
			}
			x, rounds, ok = impl.SparseGradient(in.firm, in.v, 1e-3, impl.MaxSolves)
			wantBool(t, fmt.Sprint("SparseGradient misses ", norm(x)), ok && norm(x) < 1.1e-3 && rounds <= 2*side, true)
			x, least, ok := impl.SparseWith(in.firm, root, in.v, 1e-3, impl.MaxSolves)
			wantBool(t, fmt.Sprint("SparseWith a root misses ", norm(x)), ok && norm(x) < 1.1e-3 && least <= 1, true)
			x, fewer, ok := impl.SparseWith(in.firm, drop, in.v, 1e-3, impl.MaxSolves)
			wantBool(t, fmt.Sprint("SparseWith a drop misses ", norm(x), " in ", fewer), ok && norm(x) < 1.1e-3 && fewer <= rounds+1, true)
		}
	}
}

// sparseResults tells the results of all functions of chapter 5 by texts.
func sparseResults(a, b impl.Sparse, entries []impl.Entry, v []float32, list []int64, n int64, x float32) string {
	var out []any
	tell := func(parts ...any) { out = append(out, parts...) }
	squares := func(a impl.Sparse, ok bool) { tell(toldSparse(a), ok) }
	lists := func(x []float32, ok bool) { tell(fmtBits(x), ok) }
	rounds := func(x []float32, n int64, ok bool) { tell(fmtBits(x), n, ok) }
	tell(impl.ValidSparse(a), impl.SameSparse(a, a), impl.SameSparse(a, b))
	squares(impl.SparseFrom(n, entries))
	squares(impl.SparseFrom(a.Side, entries))
	told, ok := impl.EntriesOf(a)
	tell(len(told), ok)
	at, ok := impl.SparseAt(a, n, n)
	tell(toldText(at), ok)
	squares(impl.SparseFlip(a))
	lists(impl.SparseTimes(a, v))
	lists(impl.SparseShared(a, v, n))
	squares(impl.SparseWeigh(a, b, x, -x))
	squares(impl.SparseMul(a, b))
	band, ok := impl.SparseBand(a)
	tell(band, ok)
	for _, name := range []string{"SparseDegrees", "SparseBreadth", "SparseLeast", "SparseTree"} {
		list, ok := graphOrders()[name](a)
		tell(list, ok)
	}
	squares(impl.SparseOrder(a, list))
	counts, all, ok := impl.SparseFill(a)
	tell(counts, all, ok)
	squares(impl.SparseRoot(a))
	squares(impl.SparseDrop(a))
	lists(impl.SparseRootSolve(b, v))
	rounds(impl.SparseRounds(a, v, x, absoluteOf(x), n))
	rounds(impl.SparseGradient(a, v, absoluteOf(x), n))
	rounds(impl.SparseWith(a, b, v, absoluteOf(x), n))
	return fmt.Sprint(out...)
}

func absoluteOf(x float32) float32 { return float32(math.Abs(float64(x))) }

// sparseArguments are valid and other squares, entries, vectors, lists and numbers.
func sparseArguments() ([]impl.Sparse, [][]impl.Entry, [][]float32, [][]int64, []float32) {
	squares := append(notSparse(), goodSparse()...)
	squares = append(squares, line3(), few(1, 2), few(3, 2, untold, untold, 1, 2, untold, untold, 1, 1), nearlyAll(16), sparseInputs(0, 32, 5).firm, sparseInputs(0, 3, 5).firm, few(2, 2, untold, 1, 3))
	squares = append(append(squares, noRoots()...), wrongRoots()...)
	entries := [][]impl.Entry{nil, {}, {entry(0, 0, 2), entry(0, 0, 3)}, {entry(1, 0, 2), entry(0, 1, -3)}, {entry(3, 0, 1)}, {entry(-1, 0, 1)}, {entry(0, math.MaxInt64, 1)}, {entry(0, 0, infinite)}, entriesIn(32, 512), entriesIn(32, 513), {entry(0, 0, greatest), entry(0, 0, greatest)}}
	vectors := append(notVectors(), []float32{1}, []float32{1.5, -2}, []float32{6, 9, 4}, []float32{0, minusZero}, repeated(greatest, 3), repeated[float32](1, 32), repeated[float32](0, 32), repeated[float32](1, 33))
	lists := append(notOrders(), []int64{0}, []int64{1, 0}, []int64{2, 0, 1}, reversed(sequence(0, 32)))
	return squares, entries, vectors, lists, append(notFinite(), 0, minusZero, 1, 0.5, -1, 1.5, 2, greatest, number(1))
}

// P1: every function returns, and returns equal results for equal arguments, whoever calls.
func TestPromise1EqualSparse(t *testing.T) {
	squares, entries, vectors, lists, numbers := sparseArguments()
	counts := []int64{0, 1, 2, 3, 8, 32, 128, -1, 1 << 62, -1 << 63}
	tell := func(i, k int) string {
		return sparseResults(squares[i], squares[(7*i+k)%len(squares)], entries[(i+k)%len(entries)], vectors[k], lists[(i+2*k)%len(lists)], counts[(i+k)%len(counts)], numbers[(2*i+k)%len(numbers)])
	}
	wantEqualResults(t, len(squares), len(vectors), tell)
}

// guardedSparse returns a square with spare room behind its lists, and what tells whether they,
// or this room, have changed.
func guardedSparse(a impl.Sparse) (impl.Sparse, func() bool) {
	toldInteger := func(n int64) string { return fmt.Sprint(n) }
	var changed [3]func() bool
	a.Starts, changed[0] = guarded(a.Starts, 99, toldInteger)
	a.Columns, changed[1] = guarded(a.Columns, 99, toldInteger)
	a.Values, changed[2] = guarded(a.Values, 99, toldText)
	return a, func() bool { return changed[0]() || changed[1]() || changed[2]() }
}

// P1: no function modifies an argument, or the room behind it.
func TestPromise1SparseStays(t *testing.T) {
	toldInteger := func(n int64) string { return fmt.Sprint(n) }
	toldEntry := func(e impl.Entry) string { return fmt.Sprint(e.Row, e.Column, told(e.Value)) }
	squares, entryLists, vectors, lists, numbers := sparseArguments()
	for i := range squares {
		for k := range 12 {
			a, aChanged := guardedSparse(squares[i])
			b, bChanged := guardedSparse(squares[(i+5*k)%len(squares)])
			v, list := vectors[(i+k)%len(vectors)], lists[(i+k)%len(lists)]
			if impl.ValidSparse(a) && k%3 > 0 { // arguments that fit
				v, list = repeated[float32](1.5, int(a.Side)), reversed(sequence(0, a.Side))
				if k%3 > 1 {
					b, bChanged = guardedSparse(alone(repeated[float32](2, int(a.Side))...))
				}
			}
			v, vChanged := guarded(v, 99, toldText)
			list, listChanged := guarded(list, 99, toldInteger)
			entries, entriesChanged := guarded(entryLists[(i+k)%len(entryLists)], entry(9, 9, 9), toldEntry)
			for n := int64(0); n <= 3; n++ {
				sparseResults(a, b, entries, v, list, n, numbers[(i+k)%len(numbers)])
				sparseResults(b, a, entries, v, list, n, 1)
			}
			for _, changed := range []func() bool{aChanged, bChanged, vChanged, listChanged, entriesChanged} {
				wantBool(t, "an argument has changed", changed(), false)
			}
		}
	}
}

// P1: what a function has returned is the caller's own.
func TestPromise1SparseIsNew(t *testing.T) {
	a, root, unit := line3(), few(3, 2, untold, untold, 1, 2, untold, untold, 1, 1), alone(1, 1, 1)
	v, list := []float32{6, 9, 4}, []int64{0, 1, 2}
	squares := map[string]func() (impl.Sparse, bool){
		"SparseFrom":  func() (impl.Sparse, bool) { return impl.SparseFrom(1, []impl.Entry{entry(0, 0, 2)}) },
		"SparseFlip":  func() (impl.Sparse, bool) { return impl.SparseFlip(a) },
		"SparseWeigh": func() (impl.Sparse, bool) { return impl.SparseWeigh(a, a, 1, 0) },
		"SparseMul":   func() (impl.Sparse, bool) { return impl.SparseMul(a, unit) },
		"SparseOrder": func() (impl.Sparse, bool) { return impl.SparseOrder(a, list) },
		"SparseRoot":  func() (impl.Sparse, bool) { return impl.SparseRoot(unit) },
		"SparseDrop":  func() (impl.Sparse, bool) { return impl.SparseDrop(unit) },
	}
	for name, call := range squares {
		got, ok := call()
		want, _ := call()
		wantBool(t, name, ok, true)
		wantApart(t, name, [][]int64{got.Starts, got.Columns})
		wantApart(t, name, [][]float32{got.Values})
		again, ok := call()
		wantSparse(t, name, again, ok, want)
	}
	numbers := map[string]func() ([]float32, bool){
		"SparseTimes":           func() ([]float32, bool) { return impl.SparseTimes(unit, v) },
		"SparseShared":          func() ([]float32, bool) { return impl.SparseShared(unit, v, 2) },
		"SparseRootSolve":       func() ([]float32, bool) { return impl.SparseRootSolve(unit, v) },
		"SparseRounds":          func() ([]float32, bool) { x, _, ok := impl.SparseRounds(unit, v, 1, 0, 2); return x, ok },
		"SparseGradient":        func() ([]float32, bool) { x, _, ok := impl.SparseGradient(a, v, 1, 9); return x, ok },
		"SparseGradient, 0":     func() ([]float32, bool) { x, _, ok := impl.SparseGradient(a, v, 100, 0); return x, ok },
		"SparseWith":            func() ([]float32, bool) { x, _, ok := impl.SparseWith(a, root, v, 1, 9); return x, ok },
		"SparseWith, unit":      func() ([]float32, bool) { x, _, ok := impl.SparseWith(a, unit, v, 1, 9); return x, ok },
		"SparseWith, no rounds": func() ([]float32, bool) { x, _, ok := impl.SparseWith(a, root, v, 100, 0); return x, ok },
	}
	for name, call := range numbers {
		got, ok := call()
		want, _ := call()
		wantBool(t, name, ok, true)
		wantApart(t, name, [][]float32{got})
		again, ok := call()
		wantList(t, name, again, ok, want...)
	}
	orders := graphOrders()
	orders["SparseFill"] = func(a impl.Sparse) ([]int64, bool) { counts, _, ok := impl.SparseFill(a); return counts, ok }
	for name, call := range orders {
		got, ok := call(a)
		want, _ := call(a)
		wantApart(t, name, [][]int64{got})
		again, ok2 := call(a)
		wantBool(t, name, ok && ok2 && slices.Equal(again, want), true)
	}
	entries, ok := impl.EntriesOf(a)
	want := slices.Clone(entries)
	clear(entries)
	again, ok2 := impl.EntriesOf(a)
	wantBool(t, "EntriesOf", ok && ok2 && slices.Equal(again, want), true)
	wantSparse(t, "a result shares no memory with a square", a, true, line3())
	wantSparse(t, "a result shares no memory with a root", root, true, few(3, 2, untold, untold, 1, 2, untold, untold, 1, 1))
	wantSparse(t, "a result shares no memory with a unit square", unit, true, alone(1, 1, 1))
	wantBool(t, "a result shares no memory with a list", slices.Equal(v, []float32{6, 9, 4}) && slices.Equal(list, []int64{0, 1, 2}), true)
}
