package tests

import (
	"fmt"
	"math"
	"slices"
	"strings"
	"testing"

	"loop.example/g01327/impl"
)

// wantNearRing compares both parts of complex numbers.
func wantNearRing(t *testing.T, what string, got, want []complex64, limit float64) {
	t.Helper()
	if len(got) != len(want) {
		t.Errorf("%s: got %v, want %v, nearly", what, got, want)
		return
	}
	for i, x := range got {
		wantClose(t, what, float64(real(x)), float64(real(want[i])), limit)
		wantClose(t, what, float64(imag(x)), float64(imag(want[i])), limit)
	}
}

// strongRing returns a ring whose spectrum has no part that is near to nothing.
func (d *dice) strongRing(n int64) []complex64 {
	ring := d.ring(0, n)
	ring[0] += complex(float32(2*n), 0)
	return ring
}

// P8: spectra lead back, nearly, and products of rings are products of spectra, nearly.
func TestPromise8Spectra(t *testing.T) {
	d := &dice{70}
	for n := int64(1); n <= impl.MaxRing; n++ {
		for range 12 {
			list, v := d.ring(0, n), d.ring(0, n)
			spectrum, ok := impl.SpectrumOf(list)
			back, ok2 := impl.FromSpectrum(spectrum)
			wantBool(t, "SpectrumOf and FromSpectrum", ok && ok2, true)
			wantNearRing(t, "FromSpectrum SpectrumOf", back, list, 4e-6)
			ring, ok := impl.FromSpectrum(list)
			back, ok2 = impl.SpectrumOf(ring)
			wantBool(t, "FromSpectrum and SpectrumOf", ok && ok2, true)
			wantNearRing(t, "SpectrumOf FromSpectrum", back, list, 4e-6)
			other, _ := impl.SpectrumOf(v)
			product, ok := impl.RingTimes(list, v)
			got, ok2 := impl.SpectrumOf(product)
			for i := range spectrum {
				spectrum[i] = impl.MulComplex(spectrum[i], other[i])
			}
			wantBool(t, "RingTimes and SpectrumOf", ok && ok2, true)
			wantNearRing(t, "SpectrumOf RingTimes", got, spectrum, 2e-5*float64(n))
		}
	}
}

// P8: what rings are solved to makes b again, nearly.
func TestPromise8Rings(t *testing.T) {
	d := &dice{71}
	for n := int64(1); n <= impl.MaxRing; n++ {
		for range 12 {
			ring, b := d.strongRing(n), d.ring(0, n)
			x, ok := impl.RingSolve(ring, b)
			again, ok2 := impl.RingTimes(ring, x)
			wantBool(t, "RingSolve and RingTimes", ok && ok2, true)
			wantNearRing(t, "RingTimes RingSolve", again, b, 1e-5)
		}
	}
}

// P8: the squares of rings and shifts make what their lists make, to the last bit.
func TestPromise8Squares(t *testing.T) {
	d := &dice{72}
	for n := int64(1); n <= impl.MaxSide; n++ {
		for range 12 {
			list, v := d.list(0, n), d.list(0, n)
			ring, long := make([]complex64, n), make([]complex64, n)
			for i := range ring {
				ring[i], long[i] = complex(list[i], 0), complex(v[i], 0)
			}
			square, ok := impl.RingMatrix(list)
			want, ok2 := impl.TimesVector(square, v)
			product, ok3 := impl.RingTimes(ring, long)
			wantBool(t, "RingMatrix and RingTimes", ok && ok2 && ok3, true)
			got := make([]float32, n)
			for i, x := range product {
				got[i] = real(x)
			}
			wantList(t, "RingTimes", got, true, want...)
			square, ok = impl.ShiftMatrix(list)
			want, ok2 = impl.TimesVector(square, v)
			got, ok3 = impl.ShiftTimes(list, v)
			wantList(t, "ShiftTimes", got, ok && ok2 && ok3, want...)
			wantBool(t, "ShiftMatrix is symmetric", impl.IsSymmetric(square), true)
		}
	}
}

// P8: shifts are solved, nearly, and what tells the next number solves what it is told of.
func TestPromise8Shifts(t *testing.T) {
	d := &dice{73}
	for n := int64(1); n <= impl.MaxSide; n++ {
		for range 40 {
			list, b := d.list(0, n), d.list(0, n)
			list[0] = absoluteOf(list[0]) + float32(n)/2
			shares, reflections, left, ok := impl.ReflectionsOf(list)
			if !ok { // values below 0
				continue
			}
			x, ok := impl.ShiftSolve(list, b)
			again, ok2 := impl.ShiftTimes(list, x)
			wantBool(t, "ShiftSolve and ShiftTimes", ok && ok2, true)
			if left > list[0]/10 {
				wantNear(t, "ShiftTimes ShiftSolve", widened(again), b, 2e-4)
			}
			product := float64(list[0])
			for _, r := range reflections {
				product *= 1 - float64(r)*float64(r)
			}
			wantClose(t, "what is left", float64(left), product, 1e-5*float64(n))
			if n > 1 {
				again, ok = impl.ShiftTimes(list[:n-1], shares)
				wantBool(t, "ShiftTimes", ok, true)
				wantNear(t, "the shares tell all numbers", widened(again), list[1:], 2e-4)
				wantBool(t, "the last share is the last reflection", told(shares[n-2]) == told(reflections[n-2]), true)
			}
		}
	}
}

// squareOf returns all numbers of thirds, with two corners.
func squareOf(a impl.Thirds, corner, other float32) []float64 {
	n := len(a.Middle)
	square := make([]float64, n*n)
	for i := range n {
		square[i*n+i] = float64(a.Middle[i])
		if i > 0 {
			square[i*n+i-1] = float64(a.Lower[i])
			square[(i-1)*n+i] = float64(a.Upper[i-1])
		}
	}
	if n > 2 {
		square[n-1] += float64(corner)
		square[(n-1)*n] += float64(other)
	}
	return square
}

func timesLong(square []float64, v []float32) []float64 {
	product := make([]float64, len(v))
	for i := range product {
		for k, x := range v {
			product[i] += square[i*len(v)+k] * float64(x)
		}
	}
	return product
}

// P8: thirds are solved, nearly, with corners and without them, by any number of workers.
func TestPromise8Thirds(t *testing.T) {
	d := &dice{74}
	for n := int64(1); n <= impl.MaxRing; n++ {
		for range 20 {
			a, b := evenThirds(int(n), 0, 0, 0), d.list(0, n)
			for i := range n {
				a.Lower[i], a.Middle[i], a.Upper[i] = d.number(0), d.number(0)+4, d.number(0)
			}
			a.Lower[0], a.Upper[n-1] = 0, 0
			product, ok := impl.ThirdsTimes(a, b)
			wantBool(t, "ThirdsTimes", ok, true)
			wantNear(t, "ThirdsTimes", timesLong(squareOf(a, 0, 0), b), product, 1e-5)
			x, ok := impl.ThirdsSolve(a, b)
			wantBool(t, "ThirdsSolve", ok, true)
			wantNear(t, "ThirdsSolve", timesLong(squareOf(a, 0, 0), x), b, 1e-5)
			corner, other := d.number(0), d.number(0)
			turned, ok := impl.ThirdsRing(a, corner, other, b)
			wantBool(t, "ThirdsRing", ok == (n > 2), true)
			if ok {
				wantNear(t, "ThirdsRing", timesLong(squareOf(a, corner, other), turned), b, 2e-5)
			}
			for workers := int64(1); workers <= impl.MaxCrew; workers++ {
				shared, ok := impl.ThirdsShared([]impl.Thirds{a, evenThirds(int(n), 0, 1, 0), a}, b, workers)
				wantBool(t, "ThirdsShared", ok && toldLists(shared) == toldLists([][]float32{x, b, x}), true)
			}
		}
	}
}

// P8: divided differences tell the values of which they are made, nearly.
func TestPromise8Nodes(t *testing.T) {
	d := &dice{75}
	for n := int64(1); n <= 8; n++ {
		for range 40 {
			x, y := steps(int(n), 0, 1), d.list(0, n)
			for i := range x {
				x[i] += d.number(0) / 4
			}
			divided, ok := impl.DividedOf(x, y)
			wantBool(t, "DividedOf", ok && int64(len(divided)) == n, true)
			for i, at := range x {
				value, ok := impl.NewtonAt(x, divided, at)
				wantBool(t, "NewtonAt", ok, true)
				wantClose(t, "NewtonAt DividedOf", float64(value), float64(y[i]), 2e-3)
			}
		}
	}
	for n := 1; n <= impl.MaxRing; n++ { // squares of integers are exact
		x, y := steps(n, -3, 1), make([]float32, n)
		for i, at := range x {
			y[i] = 2*at*at - 5*at + 1
		}
		divided, ok := impl.DividedOf(x, y)
		wantList(t, "DividedOf", divided, ok, append([]float32{34, -15, 2}, make([]float32, 32)...)[:n]...)
		value, ok := impl.NewtonAt(x, divided, 40)
		if n > 2 {
			wantResult(t, "NewtonAt", value, ok, 3001)
		}
	}
}

// P8: what is solved with an updated square makes b again, nearly.
func TestPromise8Updates(t *testing.T) {
	d := &dice{76}
	for n := int64(1); n <= impl.MaxSide; n++ {
		for range 20 {
			a, u, v, b := matrix(n, n, d.list(0, n*n)...), d.list(0, n), d.list(0, n), d.list(0, n)
			for i := range n {
				a.Numbers[i*(n+1)] += float32(2 * n)
			}
			f, ok := impl.FactorRows(a)
			x, ok2 := impl.UpdatedSolve(f, u, v, b)
			wantBool(t, "UpdatedSolve", ok && ok2, true)
			square := widened(a.Numbers)
			for i := range square {
				square[i] += float64(u[i/int(n)]) * float64(v[i%int(n)])
			}
			wantNear(t, "UpdatedSolve", timesLong(square, x), b, 1e-5*float64(n))
		}
	}
}

// P8: crosses come near to a matrix, and tell their rows and columns, nearly.
func TestPromise8Crosses(t *testing.T) {
	d := &dice{77}
	for range 300 {
		rows, columns := 1+d.next()%impl.MaxSide, 1+d.next()%impl.MaxSide
		a, near := matrix(rows, columns, d.list(0, rows*columns)...), absoluteOf(d.number(0))
		got, list, others, ok := impl.CrossOf(a, near, impl.MaxSide)
		wantBool(t, "CrossOf", ok && len(list) == len(others) && int64(len(list)) <= min(rows, columns), true)
		wantNear(t, "all is at most near", widened(got.Numbers), a.Numbers, float64(near)+1e-4)
		again, ok := impl.OuterMatrix(d.list(1, rows), d.list(1, columns)) // one cross makes it
		wantBool(t, "OuterMatrix", ok, true)
		for most := int64(1); most <= impl.MaxSide; most++ {
			fewer, some, others2, ok := impl.CrossOf(a, near, most)
			count := min(int(most), len(list))
			wantBool(t, "fewer crosses are the first ones", ok && slices.Equal(some, list[:count]) && slices.Equal(others2, others[:count]), true)
			for _, row := range some {
				wantNear(t, "a row of a cross", widened(fewer.Numbers[row*columns:(row+1)*columns]), a.Numbers[row*columns:(row+1)*columns], 1e-4)
			}
			for _, column := range others2 {
				for i := range rows {
					wantClose(t, "a column of a cross", float64(fewer.Numbers[i*columns+column]), float64(a.Numbers[i*columns+column]), 1e-4)
				}
			}
			cross, some, _, ok := impl.CrossOf(again, 1e-3, most)
			wantBool(t, "one cross is enough", ok && len(some) <= 1, true)
			wantNear(t, "one cross is enough", widened(cross.Numbers), again.Numbers, 1e-6)
		}
	}
}

// P8: sheets are loaded as they were stored.
func TestPromise8Sheets(t *testing.T) {
	d := &dice{78}
	for i := range 600 {
		var list []impl.Sheet
		for range d.next() % 9 {
			s := d.sheet(i % 4)
			if i%5 == 0 {
				s.Matrix = matrix(1+d.next()%12, 1+d.next()%12)
				s.Matrix.Numbers = d.extremes(3, s.Matrix.Rows*s.Matrix.Columns)
			}
			list = append(list, s)
			bytes, ok := impl.StoreSheet(s)
			back, ok2 := impl.LoadSheet(bytes)
			wantBool(t, "LoadSheet StoreSheet", ok && ok2 && impl.SameSheets([]impl.Sheet{back}, []impl.Sheet{s}), true)
		}
		bytes, ok := impl.StoreSheets(list)
		wantBool(t, "StoreSheets", ok && bytes == slowSheets(list), true)
		back, size, ok := impl.RecoverSheets(bytes)
		wantBool(t, "RecoverSheets StoreSheets", ok && size == int64(len(bytes)) && impl.SameSheets(back, list), true)
		again, ok := impl.StoreSheets(back)
		wantBool(t, "StoreSheets RecoverSheets", ok && again == bytes, true)
	}
}

// fewArguments are what the functions of chapter 7 are told of in the tests of promise 1.
type fewArguments struct {
	ring, v     []complex64
	x, y, z     []float32
	thirds      impl.Thirds
	many        []impl.Thirds
	factor      impl.Factor
	a           impl.Matrix
	sheets      []impl.Sheet
	number, far float32
	count       int64
	bytes       string
}

// fewResults tells the results of all functions of chapter 7 by texts.
func fewResults(in fewArguments) string {
	var out []any
	tell := func(parts ...any) { out = append(out, parts...) }
	rings := func(list []complex64, ok bool) { tell(toldRing(list), ok) }
	lists := func(list []float32, ok bool) { tell(fmtBits(list), ok) }
	matrices := func(a impl.Matrix, ok bool) { tell(toldMatrix(a), ok) }
	rings(impl.SpectrumOf(in.ring))
	rings(impl.FromSpectrum(in.ring))
	rings(impl.RingTimes(in.ring, in.v))
	rings(impl.RingSolve(in.ring, in.v))
	matrices(impl.RingMatrix(in.x))
	matrices(impl.ShiftMatrix(in.x))
	lists(impl.ShiftTimes(in.x, in.y))
	shares, reflections, left, ok := impl.ReflectionsOf(in.x)
	tell(fmtBits(shares), fmtBits(reflections), toldText(left), ok)
	lists(impl.ShiftSolve(in.x, in.y))
	tell(impl.ValidThirds(in.thirds))
	lists(impl.ThirdsTimes(in.thirds, in.x))
	lists(impl.ThirdsSolve(in.thirds, in.x))
	lists(impl.ThirdsRing(in.thirds, in.number, in.far, in.x))
	many, ok := impl.ThirdsShared(in.many, in.x, in.count)
	tell(toldLists(many), ok)
	lists(impl.DividedOf(in.x, in.y))
	s, ok := impl.NewtonAt(in.x, in.y, in.number)
	tell(toldText(s), ok)
	lists(impl.UpdatedSolve(in.factor, in.x, in.y, in.z))
	cross, rows, columns, ok := impl.CrossOf(in.a, in.number, in.count)
	tell(toldMatrix(cross), rows, columns, ok)
	for _, s := range in.sheets {
		stored, ok := impl.StoreSheet(s)
		tell(impl.ValidSheet(s), stored, ok)
	}
	all, ok := impl.StoreSheets(in.sheets)
	tell(all, ok, impl.SameSheets(in.sheets, in.sheets[:len(in.sheets)/2]))
	loaded, ok := impl.LoadSheet(in.bytes)
	tell(toldSheets([]impl.Sheet{loaded}), ok)
	list, size, ok := impl.RecoverSheets(in.bytes)
	tell(toldSheets(list), size, ok)
	return fmt.Sprint(out...)
}

// chosenFew returns valid arguments and other ones, the same ones for the same seed.
func chosenFew(seed int64) fewArguments {
	d := &dice{seed}
	kind := int(seed % 4)
	n := 1 + d.next()%6
	in := fewArguments{ring: d.ring(kind, n), v: d.ring(kind, n), x: d.extremes(kind, n), y: d.extremes(kind, n), z: d.extremes(kind, n), thirds: d.thirds(kind, n), factor: d.factor(kind, n), a: matrix(n, n, d.extremes(kind, n*n)...)}
	if seed%3 == 0 {
		in.x[0] = absoluteOf(in.x[0]) + float32(n)
	}
	for range d.next() % 9 {
		in.many = append(in.many, d.thirds(kind, n))
		in.sheets = append(in.sheets, d.sheet(kind))
	}
	in.number, in.far, in.count = absoluteOf(d.extreme(kind)), d.extreme(kind), d.next()%10
	in.bytes = slowSheets(in.sheets[:len(in.sheets)/2])
	if seed%5 == 0 { // arguments that are not what they have to be
		in.ring, in.thirds, in.factor = notRings()[d.next()%20], notThirds()[d.next()%30], notFactors()[d.next()%20]
		in.sheets = append(in.sheets, notSheets()[d.next()%30])
		in.bytes += notStored()[d.next()%20]
	}
	if seed%7 == 0 {
		in.x, in.a, in.many = notNodes()[d.next()%10], notMatrices()[d.next()%20], notThirds()[:d.next()%30]
		in.number, in.count = notFinite()[d.next()%4], []int64{-1, math.MaxInt64, math.MinInt64, 1 << 32}[d.next()%4]
		in.bytes = broken(in.bytes, d.next(), d.next()%9)
	}
	return in
}

// P1: every function returns, and returns equal results for equal arguments, whoever calls.
func TestPromise1EqualFew(t *testing.T) {
	wantEqualResults(t, 40, 20, func(i, k int) string { return fewResults(chosenFew(int64(20*i + k))) })
	for _, bytes := range []string{strings.Repeat("MAT1", 1<<18), strings.Repeat("\xff", 1<<20), "MAT1\xff", "MAT1\x01a\xff\xff" + strings.Repeat("\x00", 1<<20)} {
		fewResults(fewArguments{bytes: bytes})
	}
}

func toldComplexText(x complex64) string { return fmt.Sprint(toldPair(x)) }

// guardedThirds returns thirds with spare room behind their lists, and what tells whether they,
// or this room, have changed.
func guardedThirds(a impl.Thirds) (impl.Thirds, func() bool) {
	var changed [3]func() bool
	a.Lower, changed[0] = guarded(a.Lower, 99, toldText)
	a.Middle, changed[1] = guarded(a.Middle, 99, toldText)
	a.Upper, changed[2] = guarded(a.Upper, 99, toldText)
	return a, func() bool { return changed[0]() || changed[1]() || changed[2]() }
}

// guardedFew returns arguments with spare room behind all lists, and what tells whether they, or
// this room, have changed.
func guardedFew(in fewArguments) (fewArguments, func() bool) {
	all := make([]func() bool, 11)
	in.ring, all[0] = guarded(in.ring, 99, toldComplexText)
	in.v, all[1] = guarded(in.v, 99, toldComplexText)
	in.x, all[2] = guarded(in.x, 99, toldText)
	in.y, all[3] = guarded(in.y, 99, toldText)
	in.z, all[4] = guarded(in.z, 99, toldText)
	in.thirds, all[5] = guardedThirds(in.thirds)
	in.factor.Square.Numbers, all[6] = guarded(in.factor.Square.Numbers, 99, toldText)
	in.factor.Order, all[7] = guarded(in.factor.Order, 99, func(n int64) string { return fmt.Sprint(n) })
	in.a.Numbers, all[8] = guarded(in.a.Numbers, 99, toldText)
	for i, one := range in.many {
		var changed func() bool
		in.many[i], changed = guardedThirds(one)
		all = append(all, changed)
	}
	in.many, all[9] = guarded(in.many, impl.Thirds{}, toldThirds)
	for i, s := range in.sheets {
		var changed func() bool
		in.sheets[i].Matrix.Numbers, changed = guarded(s.Matrix.Numbers, 99, toldText)
		all = append(all, changed)
	}
	in.sheets, all[10] = guarded(in.sheets, impl.Sheet{}, func(s impl.Sheet) string { return toldSheets([]impl.Sheet{s}) })
	return in, func() bool {
		return slices.ContainsFunc(all, func(changed func() bool) bool { return changed() })
	}
}

// P1: no function modifies an argument, or the room behind it.
func TestPromise1FewStay(t *testing.T) {
	for seed := range int64(400) {
		in, changed := guardedFew(chosenFew(seed))
		for range 2 {
			fewResults(in)
			wantBool(t, fmt.Sprint("an argument has changed, ", seed), changed(), false)
		}
	}
}

// P1: what a function has returned is the caller's own.
func TestPromise1RingsAreNew(t *testing.T) {
	one, two, list := []complex64{2}, []complex64{1, 2}, []complex64{3, 4}
	rings := map[string]func() ([]complex64, bool){
		"SpectrumOf": func() ([]complex64, bool) { return impl.SpectrumOf(two) }, "SpectrumOf one": func() ([]complex64, bool) { return impl.SpectrumOf(one) },
		"FromSpectrum": func() ([]complex64, bool) { return impl.FromSpectrum(two) }, "FromSpectrum one": func() ([]complex64, bool) { return impl.FromSpectrum(one) },
		"RingTimes": func() ([]complex64, bool) { return impl.RingTimes(two, list) }, "RingTimes one": func() ([]complex64, bool) { return impl.RingTimes(one, one) },
		"RingSolve": func() ([]complex64, bool) { return impl.RingSolve(two, list) }, "RingSolve one": func() ([]complex64, bool) { return impl.RingSolve(one, one) },
	}
	for name, call := range rings {
		first, ok := call()
		before := toldRing(first)
		for i := range first {
			first[i] = -99
		}
		_ = append(first, -99)
		second, ok2 := call()
		wantBool(t, name, ok && ok2 && toldRing(second) == before, true)
	}
	wantBool(t, "a result shares no memory with a ring", toldRing(one)+toldRing(two)+toldRing(list) == toldRing([]complex64{2})+toldRing([]complex64{1, 2})+toldRing([]complex64{3, 4}), true)
}

// P1: what a function has returned is the caller's own.
func TestPromise1FewAreNew(t *testing.T) {
	x, y, one := []float32{4, 1, 2}, []float32{1, 2, 3}, []float32{4}
	a, plain, f := evenThirds(3, 1, 4, 1), evenThirds(3, 0, 1, 0), factor(middle(1, 1, 1), 0, 1, 2)
	square, sheets := matrix(1, 1, 5), goodSheets()[:2]
	bytes := slowSheets(sheets)
	calls := map[string]func() ([][]float32, bool){
		"ReflectionsOf": func() ([][]float32, bool) {
			shares, reflections, _, ok := impl.ReflectionsOf(x)
			return [][]float32{shares, reflections}, ok
		},
		"ThirdsShared":          func() ([][]float32, bool) { return impl.ThirdsShared([]impl.Thirds{plain, a, plain}, x, 2) },
		"ThirdsShared of one":   func() ([][]float32, bool) { return impl.ThirdsShared([]impl.Thirds{plain}, x, 1) },
		"ThirdsShared of equal": func() ([][]float32, bool) { return impl.ThirdsShared(repeated(a, 8), x, 8) },
		"LoadSheet": func() ([][]float32, bool) {
			s, ok := impl.LoadSheet(bytes[:18])
			return [][]float32{s.Matrix.Numbers}, ok
		},
		"RecoverSheets": func() ([][]float32, bool) {
			list, _, ok := impl.RecoverSheets(bytes + bytes)
			var numbers [][]float32
			for _, s := range list {
				numbers = append(numbers, s.Matrix.Numbers)
			}
			return numbers, ok
		},
	}
	matrices := map[string]func() (impl.Matrix, bool){
		"RingMatrix": func() (impl.Matrix, bool) { return impl.RingMatrix(x) }, "RingMatrix of one": func() (impl.Matrix, bool) { return impl.RingMatrix(one) },
		"ShiftMatrix": func() (impl.Matrix, bool) { return impl.ShiftMatrix(x) }, "ShiftMatrix of one": func() (impl.Matrix, bool) { return impl.ShiftMatrix(one) },
		"CrossOf":         func() (impl.Matrix, bool) { a, _, _, ok := impl.CrossOf(square, 0, 1); return a, ok },
		"CrossOf nothing": func() (impl.Matrix, bool) { a, _, _, ok := impl.CrossOf(square, 9, 1); return a, ok },
	}
	for name, call := range matrices {
		calls[name] = func() ([][]float32, bool) { a, ok := call(); return [][]float32{a.Numbers}, ok }
	}
	lists := map[string]func() ([]float32, bool){
		"ShiftTimes": func() ([]float32, bool) { return impl.ShiftTimes(x, y) }, "ShiftSolve": func() ([]float32, bool) { return impl.ShiftSolve(x, y) }, "ShiftSolve one": func() ([]float32, bool) { return impl.ShiftSolve(one, one) },
		"ThirdsTimes": func() ([]float32, bool) { return impl.ThirdsTimes(plain, x) }, "ThirdsSolve": func() ([]float32, bool) { return impl.ThirdsSolve(plain, x) }, "ThirdsRing": func() ([]float32, bool) { return impl.ThirdsRing(plain, 0, 0, x) },
		"DividedOf": func() ([]float32, bool) { return impl.DividedOf(x, y) }, "DividedOf one": func() ([]float32, bool) { return impl.DividedOf(one, one) }, "UpdatedSolve": func() ([]float32, bool) { return impl.UpdatedSolve(f, []float32{0, 0, 0}, x, y) },
	}
	for name, call := range lists {
		calls[name] = func() ([][]float32, bool) { list, ok := call(); return [][]float32{list}, ok }
	}
	wantOwn(t, calls)
	_, rows, columns, _ := impl.CrossOf(square, 0, 1)
	wantApart(t, "CrossOf", [][]int64{rows, columns})
	kept := toldLists([][]float32{x, y, one, square.Numbers}) + toldThirds(a) + toldThirds(plain) + toldFactor(f)
	wantBool(t, "a result shares no memory with an argument", kept == toldLists([][]float32{{4, 1, 2}, {1, 2, 3}, {4}, {5}})+toldThirds(evenThirds(3, 1, 4, 1))+toldThirds(evenThirds(3, 0, 1, 0))+toldFactor(factor(middle(1, 1, 1), 0, 1, 2)), true)
}
