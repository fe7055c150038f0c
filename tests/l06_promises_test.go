package tests

import (
	"fmt"
	"math"
	"slices"
	"testing"

	"loop.example/g01327/impl"
)

// smallWhole returns integers of which products of two are low, of kinds of the tables.
func smallWhole(d *dice, rows, columns int64) impl.Whole {
	return d.whole(int(d.next()%2)*2, rows, columns)
}

// slowWhole returns a product without the program.
func slowWhole(a, b impl.Whole) impl.Whole {
	product := allOf(a.Rows, b.Columns, 0)
	for i := range a.Rows {
		for k := range b.Columns {
			for j := range a.Columns {
				product.Numbers[i*b.Columns+k] += a.Numbers[i*a.Columns+j] * b.Numbers[j*b.Columns+k]
			}
		}
	}
	return product
}

// slowDet returns a determinant by all orders of the columns.
func slowDet(w impl.Whole) int64 {
	det := int64(0)
	for _, order := range allOrders(int(w.Rows)) {
		product := signByChanges(order)
		for i, k := range order {
			product *= w.Numbers[int64(i)*w.Rows+k]
		}
		det += product
	}
	return det
}

// leadOf returns the place of the first number of a row that is not 0, -1 if there is none.
func leadOf(w impl.Whole, row int64) int64 {
	return int64(slices.IndexFunc(w.Numbers[row*w.Columns:(row+1)*w.Columns], func(n int64) bool { return n != 0 }))
}

// P7: determinants are multiplied.
func TestPromise7Determinants(t *testing.T) {
	d := &dice{7}
	for range 400 {
		n := 1 + d.next()%6
		a, b := d.whole(0, n, n), d.whole(0, n, n)
		product, ok := impl.MulWholes(a, b)
		wantWhole(t, "MulWholes", product, ok, slowWhole(a, b))
		first, ok := impl.DetOfWhole(a)
		second, ok2 := impl.DetOfWhole(b)
		both, ok3 := impl.DetOfWhole(product)
		wantBool(t, "DetOfWhole "+toldWhole(a)+" and "+toldWhole(b), ok && ok2 && ok3 && both == first*second && first == slowDet(a), true)
		flip, ok := impl.DetOfWhole(flippedWhole(t, a))
		wantInteger(t, "DetOfWhole FlipWhole", flip, ok, first)
		all, ok := impl.MinorOfWhole(a, sequence(0, n), sequence(0, n))
		wantInteger(t, "MinorOfWhole of all", all, ok, first)
		for _, p := range []int64{2, 3, 5, 997} {
			got, ok := impl.DetOver(a, p)
			wantInteger(t, "DetOver "+toldWhole(a), got, ok, (first%p+p)%p)
		}
		if n <= 4 {
			adjoint, ok := impl.AdjointOf(a)
			wantWhole(t, "AdjointOf times its square", slowWhole(a, adjoint), ok, inMiddle(repeated(first, int(n))...))
			wantWhole(t, "a square times AdjointOf it", slowWhole(adjoint, a), ok, inMiddle(repeated(first, int(n))...))
		}
	}
}

// P7: a square leads what CharactersOf it tells to nothing.
func TestPromise7Characters(t *testing.T) {
	d := &dice{8}
	for range 200 {
		n := 1 + d.next()%6
		a := smallWhole(d, n, n)
		characters, ok := impl.CharactersOf(a)
		wantBool(t, "CharactersOf", ok && int64(len(characters)) == n, true)
		power := inMiddle(repeated[int64](1, int(n))...)
		for _, c := range characters {
			power = slowWhole(power, a)
			for i := range n {
				power.Numbers[i*(n+1)] += c
			}
		}
		wantWhole(t, "a square in its own polynomial "+toldWhole(a), power, true, allOf(n, n, 0))
		det, ok := impl.DetOfWhole(a)
		wantInteger(t, "the last one of CharactersOf", characters[n-1], ok, det*(1-2*(n%2)))
	}
}

// P7: echelons are made by what is told, and of the same rows, the same ones.
func TestPromise7Echelons(t *testing.T) {
	d := &dice{9}
	for range 600 {
		rows, columns := 1+d.next()%6, 1+d.next()%6
		w := smallWhole(d, rows, columns)
		h, u, ok := impl.EchelonOf(w)
		if !ok { // a number on the way may be too great
			continue
		}
		wantWhole(t, "EchelonOf is made of "+toldWhole(w), slowWhole(u, w), true, h)
		det := slowDet(u) // also if what is added wraps around
		wantBool(t, "what makes EchelonOf can be undone", det == 1 || det == -1, true)
		lead := int64(-1)
		for r := range rows {
			next := leadOf(h, r)
			if next < 0 {
				lead = columns
				continue
			}
			wantBool(t, "a row of EchelonOf begins behind that before it "+toldWhole(h), next > lead, true)
			lead = next
			n := h.Numbers[r*columns+lead]
			wantBool(t, "a row of EchelonOf begins above 0", n > 0, true)
			for i := range r {
				above := h.Numbers[i*columns+lead]
				wantBool(t, "numbers above it are remainders", 0 <= above && above < n, true)
			}
		}
		again, unit, ok := impl.EchelonOf(h)
		wantWhole(t, "EchelonOf EchelonOf", again, ok, h)
		wantWhole(t, "nothing makes EchelonOf EchelonOf", unit, ok, inMiddle(repeated[int64](1, int(rows))...))
	}
}

// P7: normal forms divide one another, and stay the same if rows are taken away from others.
func TestPromise7NormalForms(t *testing.T) {
	d := &dice{10}
	for range 400 {
		rows, columns := 1+d.next()%4, 1+d.next()%4
		w := smallWhole(d, rows, columns)
		normal, ok := impl.NormalOf(w)
		wantBool(t, "NormalOf", ok && int64(len(normal)) == min(rows, columns), true)
		content, ok := impl.ContentOf(w)
		wantInteger(t, "the first one of NormalOf", normal[0], ok, content)
		product := int64(1)
		for k, n := range normal {
			product *= n
			wantBool(t, "NormalOf is not below 0", n >= 0, true)
			if k > 0 {
				divided := n == 0 || normal[k-1] != 0 && n%normal[k-1] == 0
				wantBool(t, fmt.Sprint("each one of NormalOf divides the next ", normal), divided, true)
			}
		}
		if rows == columns {
			det, ok := impl.DetOfWhole(w)
			wantBool(t, "the product of NormalOf", ok && (product == det || product == -det), true)
		}
		h, _, ok := impl.EchelonOf(w)
		if ok && slices.Max(h.Numbers) <= impl.MaxDigit && slices.Min(h.Numbers) >= -impl.MaxDigit {
			again, ok := impl.NormalOf(h)
			wantIntegers(t, "NormalOf EchelonOf", again, ok, normal...)
		}
	}
}

// P7: null vectors are led to nothing, and what is solved is led to v.
func TestPromise7NullVectors(t *testing.T) {
	d := &dice{11}
	list := primes()
	for i := range 600 {
		rows, columns := 1+d.next()%6, 1+d.next()%6
		w := d.whole(i%4, rows, columns)
		p := list[d.next()%168]
		if i%2 == 0 {
			p = list[d.next()%4]
		}
		wantLed := func(x, v []int64) {
			t.Helper()
			led := slowWhole(w, integers(columns, 1, x...))
			for k, n := range led.Numbers {
				wantBool(t, fmt.Sprint(toldWhole(w), " leads ", x, " over ", p), (n-v[k])%p == 0, true)
			}
			for _, n := range x {
				wantBool(t, "a remainder", 0 <= n && n < p, true)
			}
		}
		rank, ok := impl.RankOver(w, p)
		nulls, ok2 := impl.NullOver(w, p)
		wantBool(t, "there are columns and pivots", ok && ok2 && rank+int64(len(nulls)) == columns, true)
		for _, x := range nulls {
			wantLed(x, make([]int64, rows))
		}
		flip, ok := impl.RankOver(flippedWhole(t, w), p)
		wantInteger(t, "RankOver FlipWhole", flip, ok, rank)
		v := slowWhole(w, d.whole(0, columns, 1)).Numbers
		for k := range v {
			v[k] %= p
		}
		x, ok := impl.SolveOver(w, v, p)
		wantBool(t, "SolveOver what is led to", ok && int64(len(x)) == columns, true)
		wantLed(x, v)
	}
}

// P7: short rows tell the same sums of rows as before, and are short.
func TestPromise7ShortRows(t *testing.T) {
	d := &dice{12}
	for range 300 {
		columns := 1 + d.next()%6
		rows := 1 + d.next()%min(4, columns)
		w := d.whole(0, rows, columns)
		short, made, ok := impl.ShortRows(w, 1000)
		if !ok || impl.SameWhole(w, allOf(rows, columns, 0)) { // rows that depend on one another, or a row of 0
			continue
		}
		before, _, ok := impl.EchelonOf(w)
		after, _, ok2 := impl.EchelonOf(short)
		if ok && ok2 {
			wantWhole(t, "EchelonOf ShortRows", after, true, before)
		}
		again, none, ok := impl.ShortRows(short, 1000)
		wantWhole(t, "ShortRows ShortRows", again, ok, short)
		wantBool(t, "steps", made >= rows-1 && none == rows-1, true)
		gram, ok := impl.GramOf(short)
		shortest, squares, ok2 := impl.ShortestOf(short, 3)
		wantBool(t, "GramOf and ShortestOf", ok && ok2, true)
		sum := int64(0)
		for _, n := range shortest {
			sum += n * n
		}
		wantInteger(t, "the sum of squares of ShortestOf", squares, true, sum)
		wantBool(t, "no row is shorter than ShortestOf, and the first one at most 3 times as long", squares <= gram.Numbers[0] && gram.Numbers[0] <= 8*squares, true)
		for i := range rows {
			wantBool(t, "no row is shorter than ShortestOf", squares <= gram.Numbers[i*(rows+1)], true)
		}
	}
}

// P7: integers of matrices are those of which they are made.
func TestPromise7Matrices(t *testing.T) {
	d := &dice{13}
	for range 300 {
		rows, inner, columns := 1+d.next()%6, 1+d.next()%6, 1+d.next()%6
		a, b := d.whole(1, rows, inner), d.whole(1, inner, columns)
		left, ok := impl.MatrixOf(a)
		right, ok2 := impl.MatrixOf(b)
		product, ok3 := impl.MulMatrices(left, right)
		wantBool(t, "MatrixOf and MulMatrices", ok && ok2 && ok3, true)
		got, ok := impl.WholeOf(product, 1)
		want, ok2 := impl.MulWholes(a, b)
		wantWhole(t, "WholeOf MulMatrices", got, ok && ok2, want)
		got, ok = impl.GramOf(a)
		want, ok2 = impl.MulWholes(a, flippedWhole(t, a))
		wantWhole(t, "GramOf", got, ok && ok2, want)
	}
}

// wholeResults tells the results of all functions of chapter 6 by texts.
func wholeResults(a, b impl.Whole, m impl.Matrix, list, other []int64, n int64, x float32) string {
	var out []any
	tell := func(parts ...any) { out = append(out, parts...) }
	wholes := func(w impl.Whole, ok bool) { tell(toldWhole(w), ok) }
	numbers := func(n int64, ok bool) { tell(n, ok) }
	lists := func(list []int64, ok bool) { tell(list, ok) }
	tell(impl.ValidWhole(a), impl.SameWhole(a, a), impl.SameWhole(a, b), impl.IsPrime(n))
	wholes(impl.UnitWhole(n))
	wholes(impl.FlipWhole(a))
	wholes(impl.MulWholes(a, b))
	wholes(impl.WholeOf(m, x))
	matrix, ok := impl.MatrixOf(a)
	tell(toldMatrix(matrix), ok)
	numbers(impl.DetOfWhole(a))
	numbers(impl.MinorOfWhole(a, list, other))
	wholes(impl.AdjointOf(a))
	lists(impl.CharactersOf(a))
	numbers(impl.GcdOf(n, int64(len(list))))
	numbers(impl.ContentOf(a))
	h, u, ok := impl.EchelonOf(a)
	tell(toldWhole(h), toldWhole(u), ok)
	lists(impl.NormalOf(a))
	numbers(impl.BackOver(int64(len(list)), n))
	numbers(impl.RankOver(a, n))
	numbers(impl.DetOver(a, n))
	nulls, ok := impl.NullOver(a, n)
	tell(nulls, ok)
	lists(impl.SolveOver(a, list, n))
	wholes(impl.GramOf(a))
	short, made, ok := impl.ShortRows(a, n)
	tell(toldWhole(short), made, ok)
	shortest, squares, ok := impl.ShortestOf(a, n)
	tell(shortest, squares, ok)
	return fmt.Sprint(out...)
}

// wholeArguments are valid and other integers in rows, matrices, lists and numbers.
func wholeArguments() ([]impl.Whole, []impl.Matrix, [][]int64, []int64, []float32) {
	d := &dice{14}
	wholes := append(notLowSquares(), goodWholes()...)
	for i := range 24 {
		wholes = append(wholes, d.whole(i%4, 1+d.next()%6, 1+d.next()%6), d.whole(i%3, 4, 4))
	}
	wholes = append(wholes, greatDet(), integers(1, 6, 1, 2, 3, 4, 5, 6), integers(3, 3, 9, 4, -9, 4, -3, 7, 9, 4, -9))
	matrices := append(notMatrices(), matrix(1, 1, 1.5), matrix(2, 2, 0.5, -0.5, 1e6, -1e6), filled(6, 6, 1.25), filled(12, 12, 1), matrix(1, 1, greatest))
	lists := append(notOrders(), []int64{0}, []int64{0, 1}, []int64{1, 3}, []int64{0, 1, 2}, []int64{1, 2, 3}, sequence(0, 4), sequence(0, 6), sequence(0, 7))
	return wholes, matrices, lists, []int64{0, 1, 2, 3, 5, 6, 7, 997, 1000, 1001, -1, math.MaxInt64, math.MinInt64}, append(notFinite(), 0, minusZero, 1, -2, 0.5, greatest)
}

// P1: every function returns, and returns equal results for equal arguments, whoever calls.
func TestPromise1EqualWholes(t *testing.T) {
	wholes, matrices, lists, numbers, factors := wholeArguments()
	tell := func(i, k int) string {
		return wholeResults(wholes[i], wholes[(7*i+k)%len(wholes)], matrices[(i+k)%len(matrices)], lists[(i+2*k)%len(lists)], lists[(i+k)%len(lists)], numbers[k], factors[(2*i+k)%len(factors)])
	}
	wantEqualResults(t, len(wholes), len(numbers), tell)
}

// guardedWhole returns integers with spare room behind them, and what tells whether they, or
// this room, have changed.
func guardedWhole(w impl.Whole) (impl.Whole, func() bool) {
	var changed func() bool
	w.Numbers, changed = guarded(w.Numbers, 1, func(n int64) string { return fmt.Sprint(n) })
	return w, changed
}

// P1: no function modifies an argument, or the room behind it.
func TestPromise1WholesStay(t *testing.T) {
	toldInteger := func(n int64) string { return fmt.Sprint(n) }
	wholes, matrices, lists, numbers, factors := wholeArguments()
	for i := range wholes {
		for k, n := range numbers {
			a, aChanged := guardedWhole(wholes[i])
			b, bChanged := guardedWhole(wholes[(i+5*k)%len(wholes)])
			m := matrices[(i+k)%len(matrices)]
			room, mChanged := guarded(m.Numbers, 1, toldText)
			m.Numbers = room
			list := lists[(i+k)%len(lists)]
			if impl.ValidWhole(a) && k%2 > 0 { // arguments that fit
				list = sequence(0, min(a.Rows, a.Columns))
			}
			list, listChanged := guarded(list, 1, toldInteger)
			other, otherChanged := guarded(slices.Clone(list), 1, toldInteger)
			wholeResults(a, b, m, list, other, n, factors[(i+k)%len(factors)])
			wholeResults(b, a, m, other, list, n, 1)
			for _, changed := range []func() bool{aChanged, bChanged, mChanged, listChanged, otherChanged} {
				wantBool(t, "an argument has changed", changed(), false)
			}
		}
	}
}

// P1: what a function has returned is the caller's own.
func TestPromise1WholesAreNew(t *testing.T) {
	w, one, list := integers(2, 2, 1, 2, 2, 4), integers(1, 1, 5), []int64{3, 6}
	calls := map[string]func() ([][]int64, bool){}
	wholes := map[string]func() (impl.Whole, bool){
		"UnitWhole":           func() (impl.Whole, bool) { return impl.UnitWhole(2) },
		"FlipWhole":           func() (impl.Whole, bool) { return impl.FlipWhole(w) },
		"FlipWhole of one":    func() (impl.Whole, bool) { return impl.FlipWhole(one) },
		"MulWholes":           func() (impl.Whole, bool) { return impl.MulWholes(w, w) },
		"WholeOf":             func() (impl.Whole, bool) { return impl.WholeOf(matrix(1, 2, 1.5, 2), 1) },
		"AdjointOf":           func() (impl.Whole, bool) { return impl.AdjointOf(w) },
		"AdjointOf one":       func() (impl.Whole, bool) { return impl.AdjointOf(one) },
		"GramOf":              func() (impl.Whole, bool) { return impl.GramOf(w) },
		"ShortRows, no steps": func() (impl.Whole, bool) { short, _, ok := impl.ShortRows(w, 0); return short, ok },
		"ShortRows of one":    func() (impl.Whole, bool) { short, _, ok := impl.ShortRows(one, 9); return short, ok },
		"ShortRows": func() (impl.Whole, bool) {
			short, _, ok := impl.ShortRows(integers(2, 2, 1, 0, 5, 1), 9)
			return short, ok
		},
	}
	for name, call := range wholes {
		calls[name] = func() ([][]int64, bool) { w, ok := call(); return [][]int64{w.Numbers}, ok }
	}
	lists := map[string]func() ([]int64, bool){
		"CharactersOf": func() ([]int64, bool) { return impl.CharactersOf(w) },
		"NormalOf":     func() ([]int64, bool) { return impl.NormalOf(w) },
		"SolveOver":    func() ([]int64, bool) { return impl.SolveOver(w, list, 5) },
		"ShortestOf":   func() ([]int64, bool) { shortest, _, ok := impl.ShortestOf(w, 1); return shortest, ok },
	}
	for name, call := range lists {
		calls[name] = func() ([][]int64, bool) { list, ok := call(); return [][]int64{list}, ok }
	}
	for name, a := range map[string]impl.Whole{"EchelonOf": w, "EchelonOf one": one} {
		calls[name] = func() ([][]int64, bool) {
			h, u, ok := impl.EchelonOf(a)
			return [][]int64{h.Numbers, u.Numbers}, ok
		}
	}
	calls["NullOver"] = func() ([][]int64, bool) { return impl.NullOver(allOf(2, 6, 1), 5) }
	wantOwn(t, calls)
	a, ok := impl.MatrixOf(w)
	wantApart(t, "MatrixOf", [][]float32{a.Numbers})
	wantWhole(t, "a result shares no memory with integers", w, ok, integers(2, 2, 1, 2, 2, 4))
	wantWhole(t, "a result shares no memory with one integer", one, true, integers(1, 1, 5))
	wantBool(t, "a result shares no memory with a list", slices.Equal(list, []int64{3, 6}), true)
}
