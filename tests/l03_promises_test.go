package tests

import (
	"fmt"
	"math"
	"slices"
	"testing"

	"loop.example/g01327/impl"
)

// longProduct multiplies with 64 bits, so that what is compared has no errors of its own.
func longProduct(a, b impl.Matrix) []float64 {
	list := make([]float64, a.Rows*b.Columns)
	for i := range a.Rows {
		for k := range b.Columns {
			for j := range a.Columns {
				list[i*b.Columns+k] += float64(a.Numbers[i*a.Columns+j]) * float64(b.Numbers[j*b.Columns+k])
			}
		}
	}
	return list
}

func wantNear(t *testing.T, what string, got []float64, want []float32, limit float64) {
	t.Helper()
	if len(got) != len(want) {
		t.Errorf("%s: got %d numbers, want %d", what, len(got), len(want))
		return
	}
	for i, x := range got {
		if !(math.Abs(x-float64(want[i])) <= limit) {
			t.Errorf("%s: number %d: got %v, want %v, nearly", what, i, x, want[i])
			return
		}
	}
}

func flip(t *testing.T, a impl.Matrix) impl.Matrix {
	t.Helper()
	b, ok := impl.FlipMatrix(a)
	wantBool(t, "FlipMatrix", ok, true)
	return b
}

// strong returns a drawn square whose middle is so great that what is solved is near.
func strong(t *testing.T, n, seed int64) impl.Matrix {
	t.Helper()
	a := drawn(t, n, n, seed)
	for i := range n {
		a.Numbers[i*(n+1)] += float32(n) + 1
	}
	a, ok := impl.OrderRows(a, slices.Concat(sequence(1, n), []int64{0}))
	wantBool(t, "OrderRows", ok, true)
	return a
}

func sequence(from, to int64) []int64 {
	var list []int64
	for i := from; i < to; i++ {
		list = append(list, i)
	}
	return list
}

func column(list []float32) impl.Matrix {
	return matrix(int64(len(list)), 1, list...)
}

// P4: triangles make the square again, nearly.
func TestPromise4Triangles(t *testing.T) {
	for n := int64(1); n <= 12; n++ {
		for seed := range int64(20) {
			a := drawn(t, n, n, 100*n+seed)
			f, ok := impl.FactorRows(a)
			lower, ok2 := impl.LowerOf(f)
			upper, ok3 := impl.UpperOf(f)
			ordered, ok4 := impl.OrderRows(a, f.Order)
			wantBool(t, "a factor", ok && ok2 && ok3 && ok4 && impl.ValidFactor(f) && impl.SameFactor(f, f), true)
			wantNear(t, fmt.Sprint("lower and upper ", n, seed), longProduct(lower, upper), ordered.Numbers, 1e-5)
			for i, x := range lower.Numbers {
				wantBool(t, "a number of the lower triangle is not greater than 1", math.Abs(float64(x)) <= 1, true)
				wantBool(t, "the triangles are parts of the square", int64(i)%n == int64(i)/n || upper.Numbers[i] == 0 || x == 0, true)
			}
			both, columns, count, ok := impl.FactorBoth(a, 0)
			wantBool(t, "FactorBoth", ok && count == n && impl.IsOrder(columns), true)
			lower, _ = impl.LowerOf(both)
			upper, _ = impl.UpperOf(both)
			ordered, _ = impl.OrderRows(a, both.Order)
			ordered, _ = impl.OrderRows(flip(t, ordered), columns)
			wantNear(t, fmt.Sprint("FactorBoth ", n, seed), longProduct(lower, upper), flip(t, ordered).Numbers, 1e-5)
			for i := int64(1); i < n; i++ {
				wantBool(t, "pivots of both do not grow by much", math.Abs(float64(upper.Numbers[i*(n+1)])) < 3*math.Abs(float64(upper.Numbers[(i-1)*(n+1)])), true)
			}
		}
	}
}

// P4: triangles solve what the square makes, nearly.
func TestPromise4Solves(t *testing.T) {
	for n := int64(1); n <= 12; n++ {
		for seed := range int64(20) {
			a, b := strong(t, n, 100*n+seed), drawn(t, 1, n, seed).Numbers
			f, ok := impl.FactorRows(a)
			x, ok2 := impl.FactorSolve(f, b)
			y, ok3 := impl.FactorSolveFlipped(f, b)
			inverse, ok4 := impl.FactorInverse(f)
			wantBool(t, "what is solved", ok && ok2 && ok3 && ok4, true)
			unit, _ := impl.UnitMatrix(n)
			wantNear(t, "FactorSolve", longProduct(a, column(x)), b, 1e-5)
			wantNear(t, "FactorSolveFlipped", longProduct(flip(t, a), column(y)), b, 1e-5)
			wantNear(t, "FactorInverse", longProduct(a, inverse), unit.Numbers, 1e-5)
			refined, norms, ok := impl.SolveRefined(a, b, 8)
			wantBool(t, "SolveRefined", ok && len(norms) == 8, true)
			wantNear(t, "SolveRefined", longProduct(a, column(refined)), b, 1e-6)
			wantBool(t, "little is left", norms[7] <= 1e-6, true)
			condition, ok := impl.ConditionOf(a)
			wantBool(t, "ConditionOf", ok && condition > 0.999 && condition < 20, true)
			growth, ok := impl.FactorGrowth(a, f)
			wantBool(t, "FactorGrowth", ok && growth > 0.5 && growth < 2, true)
		}
	}
}

// P4: the determinant of small integers is found exactly where all quotients are.
func TestPromise4Determinants(t *testing.T) {
	for seed := range int64(50) {
		n := 1 + seed%6
		upper := matrix(n, n, drawn(t, n, n, seed).Numbers...)
		want := float32(1)
		for i := range n {
			for k := range n {
				upper.Numbers[i*n+k] = float32(int(upper.Numbers[i*n+k] * 4))
				if k < i {
					upper.Numbers[i*n+k] = 0
				}
			}
			upper.Numbers[i*(n+1)] = float32(1 + (seed+i)%3)
			want *= upper.Numbers[i*(n+1)]
		}
		order := slices.Concat(sequence(n-seed%n, n), sequence(0, n-seed%n))
		a, _ := impl.OrderRows(upper, order)
		sign, _ := impl.OrderSign(order)
		f, ok := impl.FactorRows(a)
		det, ok2 := impl.FactorDet(f)
		wantResult(t, "FactorDet "+toldMatrix(a), det, ok && ok2, float32(sign)*want)
	}
}

// P4: roots and middles make the square again, nearly, and solve what it makes, nearly.
func TestPromise4Roots(t *testing.T) {
	for n := int64(1); n <= 12; n++ {
		for seed := range int64(20) {
			g, b := strong(t, n, 100*n+seed), drawn(t, 1, n, seed).Numbers
			a, _ := impl.MulMatrices(flip(t, g), g)
			size := float64(n+2) * float64(n+2)
			root, ok := impl.RootOfSquare(a)
			wantBool(t, "RootOfSquare", ok, true)
			wantNear(t, "root and flipped root", longProduct(root, flip(t, root)), a.Numbers, 1e-6*size)
			x, ok := impl.RootSolve(root, b)
			wantBool(t, "RootSolve", ok, true)
			wantNear(t, "RootSolve", longProduct(a, column(x)), b, 1e-5)
			lower, list, ok := impl.MiddleFactor(a)
			wantBool(t, "MiddleFactor", ok, true)
			scaled, _ := impl.MulMatrices(lower, middle(list...))
			wantNear(t, "lower, middle and flipped lower", longProduct(scaled, flip(t, lower)), a.Numbers, 1e-6*size)
			less, _ := impl.WeighMatrices(a, middle(repeated[float32](1, int(n))...), 1, float32(-2*size))
			root, shift, ok := impl.RootShifted(less, 1)
			wantBool(t, "RootShifted", ok && shift > 0, true)
			more, _ := impl.WeighMatrices(less, middle(repeated[float32](1, int(n))...), 1, shift)
			wantNear(t, "root of a shifted square", longProduct(root, flip(t, root)), more.Numbers, 1e-6*size*4)
		}
	}
}

// P4: mirrors make the matrix again, nearly, their columns are upright, and what is solved
// misses least.
func TestPromise4Mirrors(t *testing.T) {
	for n := int64(1); n <= 12; n++ {
		for seed := range int64(20) {
			rows := min(12, n+seed%4)
			a, b := drawn(t, rows, n, 100*n+seed), drawn(t, 1, rows, seed).Numbers
			q, r, ok := impl.MirrorFactor(a)
			wantBool(t, "MirrorFactor", ok, true)
			unit, _ := impl.UnitMatrix(n)
			wantNear(t, "q and r", longProduct(q, r), a.Numbers, 2e-6)
			wantNear(t, "upright columns", longProduct(flip(t, q), q), unit.Numbers, 2e-6)
			order, count, ok := impl.MirrorRank(a, 1e-5)
			wantBool(t, "MirrorRank", ok && count == n && impl.IsOrder(order), true)
			x, ok := impl.LeastSquares(a, b)
			wantUpright(t, a, x, b, repeated[float32](1, int(rows)), ok)
			weights := make([]float32, rows)
			for i := range weights {
				weights[i] = float32(1 + i%3)
			}
			x, ok = impl.WeighedSquares(a, b, weights)
			wantUpright(t, a, x, b, weights, ok)
			row := drawn(t, 1, n, seed+7)
			sum, ok := impl.AddRow(r, row.Numbers)
			wantBool(t, "AddRow", ok, true)
			old, more := longProduct(flip(t, r), r), longProduct(flip(t, row), row)
			for i := range old {
				old[i] += more[i]
			}
			wantNear(t, "squares with a row more", old, narrowed(longProduct(flip(t, sum), sum)), 1e-5)
			if n == rows {
				continue
			}
			x, ok = impl.UpperSolve(r, row.Numbers)
			wantBool(t, "UpperSolve", ok, true)
			wantNear(t, "UpperSolve", longProduct(r, column(x)), row.Numbers, 1e-5*(1+greatestOf(x)))
		}
	}
}

func narrowed(list []float64) []float32 {
	out := make([]float32, len(list))
	for i, x := range list {
		out[i] = float32(x)
	}
	return out
}

func greatestOf(list []float32) float64 {
	greatest := 0.0
	for _, x := range list {
		greatest = max(greatest, math.Abs(float64(x)))
	}
	return greatest
}

// wantUpright checks that what is missed stands on all columns, as the least one does.
func wantUpright(t *testing.T, a impl.Matrix, x, b, weights []float32, ok bool) {
	t.Helper()
	if !ok || int64(len(x)) != a.Columns {
		t.Errorf("least squares of %s: got %v %v", toldMatrix(a), x, ok)
		return
	}
	left := longProduct(a, column(x))
	for k := range a.Columns {
		sum := 0.0
		for i := range a.Rows {
			sum += float64(a.Numbers[i*a.Columns+k]) * (left[i] - float64(b[i])) * float64(weights[i])
		}
		if !(math.Abs(sum) <= 1e-5*(1+greatestOf(x))) {
			t.Errorf("least squares of %s: what is missed does not stand on the column %d: %v", toldMatrix(a), k, sum)
		}
	}
}

// P4: columns that nearly depend on one another are upright, too, as mirrors are made twice.
func TestPromise4NearColumns(t *testing.T) {
	for n := int64(2); n <= 5; n++ {
		hilbert, _ := impl.HilbertMatrix(n)
		q, r, ok := impl.MirrorFactor(hilbert)
		unit, _ := impl.UnitMatrix(n)
		wantBool(t, "MirrorFactor of a Hilbert matrix", ok, true)
		wantNear(t, "q and r", longProduct(q, r), hilbert.Numbers, 1e-6)
		wantNear(t, "upright columns", longProduct(flip(t, q), q), unit.Numbers, 1e-6)
	}
	for seed := range int64(20) {
		a := drawn(t, 6, 3, seed)
		wide := matrix(6, 5)
		for i := range 6 {
			x, y, z := a.Numbers[3*i], a.Numbers[3*i+1], a.Numbers[3*i+2]
			wide.Numbers = append(wide.Numbers, x, y, x+y, z, y-z)
		}
		_, count, ok := impl.MirrorRank(wide, 1e-5)
		wantBool(t, "three of five columns are far from others", ok && count == 3, true)
	}
}

// factorResults tells the results of all functions of chapter 3 by texts.
func factorResults(a impl.Matrix, f impl.Factor, v, w []float32, n int64, x float32) string {
	var out []any
	tell := func(name string, ok bool, parts ...any) { out = append(append(out, name, ok), parts...) }
	made, ok := impl.FactorRows(a)
	tell("FactorRows", ok, toldFactor(made), impl.ValidFactor(f), impl.SameFactor(f, made), impl.SameFactor(f, f))
	tellFactor(f, a, v, tell)
	condition, ok := impl.ConditionOf(a)
	tell("ConditionOf", ok, told(condition))
	left, ok := impl.LongResidual(a, v, w)
	tell("LongResidual", ok, toldList(left))
	solved, norms, ok := impl.SolveRefined(a, v, n)
	tell("SolveRefined", ok, toldList(solved), toldList(norms))
	both, columns, count, ok := impl.FactorBoth(a, x)
	tell("FactorBoth", ok, toldFactor(both), columns, count)
	tellRoots(a, a, a, v, tell)
	root, shift, ok := impl.RootShifted(a, x)
	tell("RootShifted", ok, toldMatrix(root), told(shift))
	solved, ok = impl.RootSolve(a, v)
	tell("RootSolve", ok, toldList(solved))
	tellMirrors(a, a, f.Square, v, w, tell)
	order, count, ok := impl.MirrorRank(a, x)
	tell("MirrorRank", ok, order, count)
	solved, ok = impl.WeighedSquares(a, v, w)
	tell("WeighedSquares", ok, toldList(solved))
	return fmt.Sprint(out...)
}

// factorArguments are valid and other matrices, factors, vectors and numbers.
func factorArguments(t *testing.T) ([]impl.Matrix, []impl.Factor, [][]float32, []float32) {
	t.Helper()
	matrices := append(notMatrices(), drawn(t, 1, 1, 1), drawn(t, 2, 2, 2), drawn(t, 3, 3, 3), drawn(t, 2, 3, 4), drawn(t, 3, 2, 5), drawn(t, 12, 12, 6), strong(t, 12, 7), filled(2, 2, greatest), filled(2, 2, 0),
		matrix(2, 2, 4, 2, 2, 3), matrix(1, 1, minusZero), matrix(2, 2, number(1), greatest, -greatest, 1), middle(1e-38, 1e38))
	factors := append(notFactors(), factor(matrix(1, 1, 2), 0), factor(matrix(2, 2, 4, 4, 0.25, 1), 1, 0), factor(drawn(t, 3, 3, 8), 2, 0, 1), factor(strong(t, 12, 9), 11, 0, 1, 2, 3, 4, 5, 6, 7, 8, 9, 10), factor(middle(number(1), greatest), 0, 1))
	vectors := append(notVectors(), []float32{1}, []float32{1.5, -2}, []float32{0.1, 0.2, 0.3}, repeated[float32](greatest, 2), repeated[float32](0, 2), drawn(t, 1, 12, 7).Numbers, repeated[float32](greatest, 12))
	return matrices, factors, vectors, append(notFinite(), 0, minusZero, 1, 0.5, -1, greatest, number(1))
}

// P1: every function returns, and returns equal results for equal arguments, whoever calls.
func TestPromise1EqualFactors(t *testing.T) {
	matrices, factors, vectors, numbers := factorArguments(t)
	tell := func(i, k int) string {
		out := ""
		for n := int64(-1); n <= 9; n += 5 {
			out += factorResults(matrices[i], factors[(7*i+k)%len(factors)], vectors[k], vectors[(i+2*k)%len(vectors)], n, numbers[(i+k)%len(numbers)])
		}
		return out
	}
	wantEqualResults(t, len(matrices), len(vectors), tell)
}

// P1: no function modifies an argument, or the room behind it.
func TestPromise1FactorsStay(t *testing.T) {
	toldNumber := func(x float32) string { return fmt.Sprint(told(x)) }
	toldInteger := func(n int64) string { return fmt.Sprint(n) }
	matrices, factors, vectors, numbers := factorArguments(t)
	for i, a := range matrices {
		for k, f := range factors {
			v, w := vectors[(i+k)%len(vectors)], vectors[(3*i+k)%len(vectors)]
			if impl.ValidFactor(f) && impl.ValidMatrix(a) { // arguments that fit
				v, w = drawn(t, 1, f.Square.Rows, 3).Numbers, drawn(t, 1, a.Rows, 5).Numbers
			}
			var changed [5]func() bool
			a.Numbers, changed[0] = guarded(matrices[i].Numbers, 99, toldNumber)
			f.Square.Numbers, changed[1] = guarded(f.Square.Numbers, 99, toldNumber)
			f.Order, changed[2] = guarded(f.Order, 99, toldInteger)
			v, changed[3] = guarded(v, 99, toldNumber)
			w, changed[4] = guarded(w, 99, toldNumber)
			for j := range 3 {
				factorResults(a, f, v, w, int64(j), numbers[(i+k+j)%len(numbers)])
				factorResults(a, f, w, w, int64(j), 0.5)
			}
			for _, c := range changed {
				wantBool(t, "an argument has changed", c(), false)
			}
		}
	}
}

// P1: what a function has returned is the caller's own.
func TestPromise1FactorsAreNew(t *testing.T) {
	a, f, v := matrix(2, 2, 4, 2, 2, 3), factor(matrix(2, 2, 4, 1, 0, 2), 0, 1), []float32{1, 2}
	lists := func(numbers ...[]float32) [][]float32 { return numbers }
	calls := map[string]func() ([][]float32, [][]int64){
		"FactorRows": func() ([][]float32, [][]int64) {
			f, _ := impl.FactorRows(a)
			return lists(f.Square.Numbers), [][]int64{f.Order}
		},
		"FactorBoth": func() ([][]float32, [][]int64) {
			f, columns, _, _ := impl.FactorBoth(a, 0)
			return lists(f.Square.Numbers), [][]int64{f.Order, columns}
		},
		"FactorBoth ends": func() ([][]float32, [][]int64) {
			f, columns, _, _ := impl.FactorBoth(a, 9)
			return lists(f.Square.Numbers), [][]int64{f.Order, columns}
		},
		"MirrorRank":         func() ([][]float32, [][]int64) { order, _, _ := impl.MirrorRank(a, 0); return nil, [][]int64{order} },
		"LowerOf":            func() ([][]float32, [][]int64) { m, _ := impl.LowerOf(f); return lists(m.Numbers), nil },
		"UpperOf":            func() ([][]float32, [][]int64) { m, _ := impl.UpperOf(f); return lists(m.Numbers), nil },
		"FactorInverse":      func() ([][]float32, [][]int64) { m, _ := impl.FactorInverse(f); return lists(m.Numbers), nil },
		"FactorSolve":        func() ([][]float32, [][]int64) { x, _ := impl.FactorSolve(f, v); return lists(x), nil },
		"FactorSolveFlipped": func() ([][]float32, [][]int64) { x, _ := impl.FactorSolveFlipped(f, v); return lists(x), nil },
		"LongResidual":       func() ([][]float32, [][]int64) { x, _ := impl.LongResidual(a, v, v); return lists(x), nil },
		"SolveRefined":       func() ([][]float32, [][]int64) { x, n, _ := impl.SolveRefined(a, v, 2); return lists(x, n), nil },
		"RootOfSquare":       func() ([][]float32, [][]int64) { m, _ := impl.RootOfSquare(a); return lists(m.Numbers), nil },
		"RootShifted":        func() ([][]float32, [][]int64) { m, _, _ := impl.RootShifted(a, 1); return lists(m.Numbers), nil },
		"RootSolve":          func() ([][]float32, [][]int64) { x, _ := impl.RootSolve(a, v); return lists(x), nil },
		"MiddleFactor":       func() ([][]float32, [][]int64) { m, d, _ := impl.MiddleFactor(a); return lists(m.Numbers, d), nil },
		"MirrorFactor": func() ([][]float32, [][]int64) {
			q, r, _ := impl.MirrorFactor(a)
			return lists(q.Numbers, r.Numbers), nil
		},
		"LeastSquares":   func() ([][]float32, [][]int64) { x, _ := impl.LeastSquares(a, v); return lists(x), nil },
		"WeighedSquares": func() ([][]float32, [][]int64) { x, _ := impl.WeighedSquares(a, v, v); return lists(x), nil },
		"AddRow":         func() ([][]float32, [][]int64) { m, _ := impl.AddRow(a, v); return lists(m.Numbers), nil },
		"UpperSolve":     func() ([][]float32, [][]int64) { x, _ := impl.UpperSolve(a, v); return lists(x), nil },
	}
	for name, call := range calls {
		numbers, orders := call()
		wantNumbers, wantOrders := call()
		wantBool(t, name+" has results", len(numbers)+len(orders) > 0, true)
		wantApart(t, name, numbers)
		wantApart(t, name, orders)
		againNumbers, againOrders := call()
		wantBool(t, name, fmt.Sprint(againNumbers, againOrders) == fmt.Sprint(wantNumbers, wantOrders), true)
	}
	if toldMatrix(a) != toldMatrix(matrix(2, 2, 4, 2, 2, 3)) || toldFactor(f) != toldFactor(factor(matrix(2, 2, 4, 1, 0, 2), 0, 1)) || v[0] != 1 || v[1] != 2 {
		t.Error("a result shares memory with an argument")
	}
}

// wantApart writes into each list, and behind it, and checks that no other list has changed.
func wantApart[T int64 | float32](t *testing.T, what string, lists [][]T) {
	t.Helper()
	for i, list := range lists {
		wantBool(t, what+" has numbers", len(list) > 0, true)
		for k := range list {
			list[k] = -99 - T(i)
		}
		_ = append(list, -99-T(i))
	}
	for i, list := range lists {
		for _, x := range list {
			wantBool(t, what+" shares no memory", x == -99-T(i), true)
		}
	}
}
