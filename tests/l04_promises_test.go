package tests

import (
	"fmt"
	"math"
	"slices"
	"testing"

	"loop.example/g01327/impl"
)

// drawnChain returns a chain of n drawn numbers.
func drawnChain(t *testing.T, n, seed int64) impl.Chain {
	t.Helper()
	return chain(drawn(t, 1, n, seed).Numbers, drawn(t, 1, n, seed+1).Numbers[1:]...)
}

// symmetricPart returns the symmetric part of a drawn square.
func symmetricPart(t *testing.T, n, seed int64) impl.Matrix {
	t.Helper()
	a, ok := impl.SymmetricPart(drawn(t, n, n, seed))
	wantBool(t, "SymmetricPart", ok && impl.IsSymmetric(a), true)
	return a
}

// longNorm returns the root of the sum of the squares with 64 bits.
func longNorm(list []float32) float64 {
	sum := 0.0
	for _, x := range list {
		sum += float64(x) * float64(x)
	}
	return math.Sqrt(sum)
}

func wantClose(t *testing.T, what string, got, want, limit float64) {
	t.Helper()
	if !(math.Abs(got-want) <= limit) {
		t.Errorf("%s: got %v, want %v, nearly", what, got, want)
	}
}

// P5: values are counted by signs: those before the one with a number, and between two of them,
// are as many as this number tells, and turns find the same values.
func TestPromise5Counts(t *testing.T) {
	for n := int64(1); n <= 12; n++ {
		for seed := range int64(20) {
			c := drawnChain(t, n, 100*n+seed)
			values, ok := impl.ValuesOfChain(c)
			low, high, ok2 := impl.SpanOfChain(c)
			wantBool(t, "ValuesOfChain", ok && ok2 && int64(len(values)) == n, true)
			square, _ := impl.ChainMatrix(c)
			turned, _, ok := impl.TurnValues(square, 10)
			wantBool(t, "TurnValues", ok, true)
			for k, value := range values {
				wantClose(t, "the value of a chain, and that by turns", float64(value), float64(turned[k]), 2e-5)
				wantBool(t, "a value lies in the span", low-1e-6 <= value && value <= high+1e-6, true)
				if k > 0 && value-values[k-1] > 1e-5 {
					below, ok := impl.CountBelow(c, (value+values[k-1])/2)
					wantBool(t, fmt.Sprintf("%s: %d values are before the value %d", toldChain(c), below, k), ok && below == int64(k), true)
				}
			}
			before, ok := impl.CountBelow(c, low-1e-5)
			all, ok2 := impl.CountBelow(c, high+1e-5)
			wantBool(t, "none and all", ok && ok2 && before == 0 && all == n, true)
		}
	}
}

// P5: the values of a string of equal numbers are known.
func TestPromise5KnownValues(t *testing.T) {
	for n := 1; n <= 12; n++ {
		values, ok := impl.ValuesOfChain(chain(repeated[float32](2, n), repeated[float32](-1, n-1)...))
		wantBool(t, "ValuesOfChain", ok && len(values) == n, true)
		for k, value := range values {
			wantClose(t, "a value of a string", float64(value), 2-2*math.Cos(math.Pi*float64(k+1)/float64(n+1)), 2e-6)
		}
	}
	for _, mids := range [][]float32{{3, 1, 2}, {5, 5, 5, 5}, {-1, 0, -1, 0, 7}} {
		values, ok := impl.ValuesOfChain(apart(mids...))
		wantBool(t, "ValuesOfChain", ok, true)
		sorted := slices.Sorted(slices.Values(mids))
		for k, value := range values {
			wantClose(t, "a chain that falls apart has its Mids as values", float64(value), float64(sorted[k]), 2e-6)
		}
	}
}

// P5: turned squares keep their norms and traces, nearly, and what two rows share is gone.
func TestPromise5Turns(t *testing.T) {
	for n := int64(2); n <= 12; n++ {
		for seed := range int64(20) {
			a := symmetricPart(t, n, 100*n+seed)
			i := seed % (n - 1)
			k := i + 1 + seed%(n-1-i)
			c, s, ok := impl.TurnOf(a, i, k)
			wantBool(t, "TurnOf", ok, true)
			wantClose(t, "c and s", float64(c)*float64(c)+float64(s)*float64(s), 1, 3e-7)
			b, ok := impl.TurnPair(a, i, k)
			wantBool(t, "TurnPair", ok && impl.IsSymmetric(b) && b.Numbers[i*n+k] == 0, true)
			wantClose(t, "norm of a turned square", longNorm(b.Numbers), longNorm(a.Numbers), 3e-6)
			old, _ := impl.OffNorm(a)
			off, ok := impl.OffNorm(b)
			z := float64(a.Numbers[i*n+k])
			wantBool(t, "OffNorm", ok, true)
			wantClose(t, "what is not in the middle", float64(off)*float64(off), float64(old)*float64(old)-2*z*z, 1e-4)
			trace, _ := impl.TraceOf(a)
			turned, _ := impl.TraceOf(b)
			wantClose(t, "trace of a turned square", float64(turned), float64(trace), 5e-6)
		}
	}
}

// P5: values by turns keep the norm and the trace, and their vectors are led to their products.
func TestPromise5TurnValues(t *testing.T) {
	for n := int64(1); n <= 12; n++ {
		for seed := range int64(10) {
			a := symmetricPart(t, n, 100*n+seed)
			values, v, ok := impl.TurnValues(a, 10)
			wantBool(t, "TurnValues", ok && slices.IsSorted(values), true)
			wantClose(t, "norm of values", longNorm(values), longNorm(a.Numbers), 1e-5)
			unit, _ := impl.UnitMatrix(n)
			wantNear(t, "vectors stand on one another", longProduct(flip(t, v), v), unit.Numbers, 1e-5)
			wantNear(t, "vectors are led to products", longProduct(a, v), narrowed(longProduct(v, middle(values...))), 1e-5)
			greatestValue := max(math.Abs(float64(values[0])), math.Abs(float64(values[n-1])))
			told, ok := impl.RayleighOf(a, v.Numbers[:n])
			wantBool(t, "RayleighOf", ok && math.Abs(float64(told)) <= greatestValue+1e-5, true)
		}
	}
}

// P5: chains are solved, nearly.
func TestPromise5SolveChain(t *testing.T) {
	for n := int64(1); n <= 12; n++ {
		for seed := range int64(20) {
			c, v := drawnChain(t, n, 100*n+seed), drawn(t, 1, n, seed).Numbers
			for i := range c.Mids {
				c.Mids[i] += 4
			}
			x, ok := impl.SolveChain(c, v)
			square, _ := impl.ChainMatrix(c)
			wantBool(t, "SolveChain", ok, true)
			wantNear(t, "SolveChain", longProduct(square, column(x)), v, 1e-6)
		}
	}
}

// P5: rounds lead a vector to the greatest value.
func TestPromise5PowerRounds(t *testing.T) {
	for n := int64(1); n <= 12; n++ {
		for seed := range int64(10) {
			a := symmetricPart(t, n, 100*n+seed)
			for i := range n {
				a.Numbers[i*(n+1)] += float32(5 * n)
				if i == 0 {
					a.Numbers[0] += float32(9 * n)
				}
			}
			values, vectors, ok := impl.TurnValues(a, 10)
			v, value, ok2 := impl.PowerRounds(a, repeated[float32](1, int(n)), 64)
			wantBool(t, "PowerRounds", ok && ok2, true)
			wantClose(t, "greatest value", float64(value), float64(values[n-1]), 5e-4)
			wantClose(t, "length", longNorm(v), 1, 1e-6)
			last := flip(t, vectors).Numbers[n*(n-1):]
			cosine, ok := impl.CosineOf(v, last)
			wantBool(t, "CosineOf", ok, true)
			wantClose(t, "cosine", float64(cosine), 1, 1e-5)
		}
	}
}

// P5: turned columns keep the norm, nearly, stand on one another, and make the matrix again.
func TestPromise5SideTurns(t *testing.T) {
	for n := int64(1); n <= 12; n++ {
		for seed := range int64(10) {
			a := drawn(t, min(12, n+seed%4), n, 100*n+seed)
			u, v, ok := impl.SideTurns(a, 10)
			wantBool(t, "SideTurns", ok, true)
			wantClose(t, "norm of turned columns", longNorm(u.Numbers), longNorm(a.Numbers), 1e-5)
			unit, _ := impl.UnitMatrix(n)
			wantNear(t, "vectors stand on one another", longProduct(flip(t, v), v), unit.Numbers, 1e-5)
			wantNear(t, "columns again", longProduct(u, flip(t, v)), a.Numbers, 1e-5)
			values, ok := impl.SingularOf(a, 10)
			wantBool(t, "SingularOf", ok && slices.IsSortedFunc(values, func(x, y float32) int { return int(math.Copysign(1, float64(y-x))) }), true)
			squares := longProduct(flip(t, u), u)
			for i := range n {
				for k := range i {
					wantClose(t, "columns stand on one another", squares[i*n+k], 0, 1e-5)
				}
			}
			for keep := range n + 1 {
				low, ok := impl.LowMatrix(a, keep, 10)
				wantBool(t, "LowMatrix", ok, true)
				left, _ := impl.WeighMatrices(a, low, 1, -1)
				wantClose(t, "what a low matrix misses", longNorm(left.Numbers), longNorm(values[keep:]), 5e-5)
			}
		}
	}
}

// P5: the nearest matrix of turns has columns of the length 1 that stand on one another.
func TestPromise5PolarPart(t *testing.T) {
	for n := int64(1); n <= 12; n++ {
		for seed := range int64(10) {
			a := strong(t, n, 100*n+seed)
			x, ok := impl.PolarPart(a, 30)
			unit, _ := impl.UnitMatrix(n)
			wantBool(t, "PolarPart", ok, true)
			wantNear(t, "columns of turns", longProduct(flip(t, x), x), unit.Numbers, 1e-5)
			rest := narrowed(longProduct(flip(t, x), a))
			part, ok := impl.SymmetricPart(matrix(n, n, rest...))
			wantBool(t, "SymmetricPart", ok, true)
			wantNear(t, "what is left is symmetric", longProduct(unit, matrix(n, n, rest...)), part.Numbers, 1e-4)
		}
	}
}

// P5: the series of a square, and that of its opposite, undo one another.
func TestPromise5ExpMatrix(t *testing.T) {
	for n := int64(1); n <= 12; n++ {
		for seed := range int64(10) {
			a := drawn(t, n, n, 100*n+seed)
			opposite, _ := impl.WeighMatrices(a, a, -1, 0)
			x, ok := impl.ExpMatrix(a, 12)
			y, ok2 := impl.ExpMatrix(opposite, 12)
			wantBool(t, "ExpMatrix", ok && ok2, true)
			unit, _ := impl.UnitMatrix(n)
			wantNear(t, "series that undo one another", longProduct(x, y), unit.Numbers, 5e-5*(1+greatestOf(x.Numbers)*greatestOf(y.Numbers)))
			numbers := drawn(t, 1, n, seed).Numbers
			z, ok := impl.ExpMatrix(middle(numbers...), 12)
			wantBool(t, "ExpMatrix", ok, true)
			for i, number := range numbers {
				wantClose(t, "series of a number", float64(z.Numbers[int64(i)*(n+1)]), math.Exp(float64(number)), 2e-6)
			}
		}
	}
}

// P5: signs of small integers are exact, and a companion has them.
func TestPromise5Signs(t *testing.T) {
	for n := int64(1); n <= 6; n++ {
		for seed := range int64(20) {
			list := drawn(t, 1, n, 100*n+seed).Numbers
			for i, x := range list {
				list[i] = float32(int(x * 4))
				if list[i] == 0 {
					list[i] = minusZero
				}
			}
			a, ok := impl.CompanionMatrix(list)
			got, ok2 := impl.SignsOf(a)
			wantList(t, "signs of a companion", got, ok && ok2, list...)
		}
	}
	for n := int64(1); n <= 5; n++ {
		for seed := range int64(10) {
			a := symmetricPart(t, n, 100*n+seed)
			values, _, ok := impl.TurnValues(a, 10)
			signs, ok2 := impl.SignsOf(a)
			wantBool(t, "SignsOf", ok && ok2, true)
			for _, value := range values {
				sum := 1.0
				for _, sign := range signs {
					sum = sum*float64(value) + float64(sign)
				}
				wantClose(t, "values are roots", sum, 0, 5e-5)
			}
		}
	}
}

// valueResults tells the results of all functions of chapter 4 by texts.
func valueResults(a impl.Matrix, c impl.Chain, v, w []float32, n int64, x float32) string {
	var out []any
	tell := func(name string, ok bool, parts ...any) { out = append(append(out, name, ok), parts...) }
	square, ok := impl.ChainMatrix(c)
	tell("ChainMatrix", ok, toldMatrix(square), impl.ValidChain(c), impl.SameChain(c, c), impl.SameChain(c, chain(v, w...)), impl.IsSymmetric(a))
	below, ok := impl.CountBelow(c, x)
	tell("CountBelow", ok, below)
	value, ok := impl.ValueOfChain(c, n)
	tell("ValueOfChain", ok, told(value))
	tellChain(c, v, tell)
	value, value2, ok := impl.TurnOf(a, n, n+1)
	tell("TurnOf", ok, told(value), told(value2))
	if a.Rows > 0 {
		tellTurns(a, a, n, tell)
	}
	tellVectors(a, v, w, n, tell)
	tellSides(a, n, n, tell)
	rank, ok := impl.RankOfValues(v, x)
	tell("RankOfValues", ok, rank)
	for _, f := range []func(impl.Matrix, int64) (impl.Matrix, bool){impl.PolarPart, impl.ExpMatrix} {
		made, ok := f(a, n)
		tell("matrix", ok, toldMatrix(made))
	}
	signs, ok := impl.SignsOf(a)
	tell("SignsOf", ok, toldList(signs))
	companion, ok := impl.CompanionMatrix(v)
	tell("CompanionMatrix", ok, toldMatrix(companion))
	return fmt.Sprint(out...)
}

// valueArguments are valid and other matrices, chains, vectors and numbers.
func valueArguments(t *testing.T) ([]impl.Matrix, []impl.Chain, [][]float32, []float32) {
	t.Helper()
	matrices := append(notMatrices(), drawn(t, 1, 1, 1), drawn(t, 2, 2, 2), drawn(t, 3, 3, 3), drawn(t, 2, 3, 4), drawn(t, 3, 2, 5), symmetricPart(t, 2, 6), symmetricPart(t, 3, 6), symmetricPart(t, 12, 7), filled(2, 2, greatest), filled(2, 2, 0),
		matrix(1, 1, minusZero), matrix(2, 2, number(1), greatest, greatest, -greatest), middle(1e-38, 1e38))
	chains := append(notChains(), chain([]float32{2, 2}, 1), chain([]float32{5}), drawnChain(t, 3, 8), drawnChain(t, 12, 9), apart(1, 1, 1), chain([]float32{0, 0, 0}, 1e20, 1e20), chain([]float32{greatest, number(1)}, -greatest))
	vectors := append(notVectors(), []float32{1}, []float32{1.5, -2}, []float32{0.1, 0.2, 0.3}, repeated[float32](greatest, 2), repeated[float32](0, 2), drawn(t, 1, 12, 7).Numbers, repeated[float32](greatest, 12))
	return matrices, chains, vectors, append(notFinite(), 0, minusZero, 1, 0.5, -1, greatest, number(1))
}

// P1: every function returns, and returns equal results for equal arguments, whoever calls.
func TestPromise1EqualValues(t *testing.T) {
	matrices, chains, vectors, numbers := valueArguments(t)
	tell := func(i, k int) string {
		out := ""
		for n := int64(-1); n <= 3; n += 2 {
			out += valueResults(matrices[i], chains[(7*i+k)%len(chains)], vectors[k], vectors[(i+2*k)%len(vectors)], n, numbers[(i+k)%len(numbers)])
		}
		return out
	}
	wantEqualResults(t, len(matrices), len(vectors), tell)
}

// P1: no function modifies an argument, or the room behind it.
func TestPromise1ValuesStay(t *testing.T) {
	toldNumber := func(x float32) string { return fmt.Sprint(told(x)) }
	matrices, chains, vectors, numbers := valueArguments(t)
	for i, a := range matrices {
		for k, c := range chains {
			v, w := vectors[(i+k)%len(vectors)], vectors[(3*i+k)%len(vectors)]
			if impl.ValidMatrix(a) { // arguments that fit
				v, w = drawn(t, 1, a.Columns, 3).Numbers, drawn(t, 1, a.Columns, 5).Numbers
			}
			if impl.ValidChain(c) && k%2 == 0 {
				v = drawn(t, 1, int64(len(c.Mids)), 3).Numbers
			}
			var changed [5]func() bool
			a.Numbers, changed[0] = guarded(matrices[i].Numbers, 99, toldNumber)
			c.Mids, changed[1] = guarded(c.Mids, 99, toldNumber)
			c.Sides, changed[2] = guarded(c.Sides, 99, toldNumber)
			v, changed[3] = guarded(v, 99, toldNumber)
			w, changed[4] = guarded(w, 99, toldNumber)
			for j := range 3 {
				valueResults(a, c, v, w, int64(j), numbers[(i+k+j)%len(numbers)])
			}
			for _, c := range changed {
				wantBool(t, "an argument has changed", c(), false)
			}
		}
	}
}

// P1: what a function has returned is the caller's own.
func TestPromise1ValuesAreNew(t *testing.T) {
	a, c, v := matrix(2, 2, 4, 2, 2, 3), chain([]float32{4, 3}, 2), []float32{1, 2}
	lists := func(numbers ...[]float32) [][]float32 { return numbers }
	calls := map[string]func() [][]float32{
		"ChainMatrix":          func() [][]float32 { m, _ := impl.ChainMatrix(c); return lists(m.Numbers) },
		"ValuesOfChain":        func() [][]float32 { x, _ := impl.ValuesOfChain(c); return lists(x) },
		"SolveChain":           func() [][]float32 { x, _ := impl.SolveChain(c, v); return lists(x) },
		"SolveChain of one":    func() [][]float32 { x, _ := impl.SolveChain(chain(v[:1]), v[1:]); return lists(x) },
		"SymmetricPart":        func() [][]float32 { m, _ := impl.SymmetricPart(a); return lists(m.Numbers) },
		"TurnPair":             func() [][]float32 { m, _ := impl.TurnPair(a, 0, 1); return lists(m.Numbers) },
		"TurnValues":           func() [][]float32 { x, m, _ := impl.TurnValues(a, 2); return lists(x, m.Numbers) },
		"TurnValues, 0 rounds": func() [][]float32 { x, m, _ := impl.TurnValues(a, 0); return lists(x, m.Numbers) },
		"UnitVector":           func() [][]float32 { x, _ := impl.UnitVector(v); return lists(x) },
		"PowerRounds":          func() [][]float32 { x, _, _ := impl.PowerRounds(a, v, 2); return lists(x) },
		"PowerRounds, 0":       func() [][]float32 { x, _, _ := impl.PowerRounds(a, v, 0); return lists(x) },
		"SideTurns":            func() [][]float32 { u, v, _ := impl.SideTurns(a, 2); return lists(u.Numbers, v.Numbers) },
		"SideTurns, 0 rounds":  func() [][]float32 { u, v, _ := impl.SideTurns(a, 0); return lists(u.Numbers, v.Numbers) },
		"SingularOf":           func() [][]float32 { x, _ := impl.SingularOf(a, 2); return lists(x) },
		"LowMatrix":            func() [][]float32 { m, _ := impl.LowMatrix(a, 2, 2); return lists(m.Numbers) },
		"LowMatrix, 0 rounds":  func() [][]float32 { m, _ := impl.LowMatrix(a, 2, 0); return lists(m.Numbers) },
		"PolarPart":            func() [][]float32 { m, _ := impl.PolarPart(a, 2); return lists(m.Numbers) },
		"PolarPart, 0 rounds":  func() [][]float32 { m, _ := impl.PolarPart(a, 0); return lists(m.Numbers) },
		"ExpMatrix":            func() [][]float32 { m, _ := impl.ExpMatrix(a, 3); return lists(m.Numbers) },
		"SignsOf":              func() [][]float32 { x, _ := impl.SignsOf(a); return lists(x) },
		"CompanionMatrix":      func() [][]float32 { m, _ := impl.CompanionMatrix(v); return lists(m.Numbers) },
	}
	for name, call := range calls {
		numbers, want := call(), call()
		wantApart(t, name, numbers)
		wantBool(t, name, fmt.Sprint(call()) == fmt.Sprint(want), true)
	}
	if toldMatrix(a) != toldMatrix(matrix(2, 2, 4, 2, 2, 3)) || toldChain(c) != toldChain(chain([]float32{4, 3}, 2)) || v[0] != 1 || v[1] != 2 {
		t.Error("a result shares memory with an argument")
	}
}
