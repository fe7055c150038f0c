package tests

import (
	"fmt"
	"hash/fnv"
	"math"
	"strings"
	"sync"
	"testing"

	"loop.example/g01327/impl"
)

// number returns the number with the given bits without the program.
func number(bits int64) float32 {
	return math.Float32frombits(uint32(bits))
}

func pair(bits [2]int64) complex64 {
	return complex(number(bits[0]), number(bits[1]))
}

// told returns the bits of x without the program, and the same ones for all not-a-numbers.
func told(x float32) int64 {
	if math.IsNaN(float64(x)) {
		return noNumberBits
	}
	return int64(math.Float32bits(x))
}

func toldPair(x complex64) [2]int64 {
	return [2]int64{told(real(x)), told(imag(x))}
}

func wantNumber(t *testing.T, what string, got float32, bits int64) {
	t.Helper()
	if told(got) != bits {
		t.Errorf("%s: got %08x, want %08x", what, told(got), bits)
	}
}

func wantComplex(t *testing.T, what string, got complex64, bits [2]int64) {
	t.Helper()
	if toldPair(got) != bits {
		t.Errorf("%s: got %08x, want %08x", what, toldPair(got), bits)
	}
}

func wantBool(t *testing.T, what string, got, want bool) {
	t.Helper()
	if got != want {
		t.Errorf("%s: got %v, want %v", what, got, want)
	}
}

// specials are bits at the edges of all kinds of numbers.
func specials() []int64 {
	return []int64{
		0x00000000, 0x80000000, // both zeros
		0x00000001, 0x80000001, 0x007fffff, 0x807fffff, // subnormal numbers
		0x00800000, 0x80800000, 0x00800001, // the least normal ones
		0x3f800000, 0xbf800000, 0x40400000, 0x3e800000, 0x3f000000, 0x3f400000, 0xbe800000,
		0x3f7fffff, 0x4b800000, 0x43480000, 0xc3480000, 0x43480001, 0xc3480001,
		0x597fffff, 0x59800000, 0xd9800000,
		0x7f7fffff, 0xff7fffff, // the greatest ones
		0x7f800000, 0xff800000, // infinities
		0x7fc00000, 0xffc00000, 0x7f800001, 0xff800001, 0x7fffffff, 0xffffffff, // not-a-numbers
	}
}

// spread returns bits all over the numbers, the same ones each time.
func spread(count int) []int64 {
	list := make([]int64, count)
	seed := uint32(12345)
	for i := range list {
		seed = seed*1664525 + 1013904223
		list[i] = int64(seed ^ seed>>15)
	}
	return list
}

func repeated[T any](x T, count int) []T {
	list := make([]T, count)
	for i := range list {
		list[i] = x
	}
	return list
}

func sumText(t *testing.T, start int64, s string) int64 {
	t.Helper()
	check, ok := impl.CheckOf(start, s)
	if !ok {
		t.Errorf("CheckOf(%d, %q) failed", start, s)
	}
	return check
}

func matrix(rows, columns int64, numbers ...float32) impl.Matrix {
	return impl.Matrix{Rows: rows, Columns: columns, Numbers: numbers}
}

// filled returns a matrix of one number.
func filled(rows, columns int64, x float32) impl.Matrix {
	return matrix(rows, columns, repeated(x, int(rows*columns))...)
}

// drawn returns a matrix of numbers from -1 to 1.
func drawn(t *testing.T, rows, columns, seed int64) impl.Matrix {
	t.Helper()
	a, _, ok := impl.DrawnMatrix(rows, columns, seed)
	wantBool(t, "DrawnMatrix", ok, true)
	return a
}

func toldMatrix(a impl.Matrix) string {
	return fmt.Sprintf("%d x %d %08x", a.Rows, a.Columns, toldList(a.Numbers))
}

func toldList(list []float32) []int64 {
	bits := make([]int64, len(list))
	for i, x := range list {
		bits[i] = told(x)
	}
	return bits
}

func wantMatrix(t *testing.T, what string, got impl.Matrix, ok bool, want impl.Matrix) {
	t.Helper()
	if !ok || toldMatrix(got) != toldMatrix(want) {
		t.Errorf("%s: got %s %v, want %s", what, toldMatrix(got), ok, toldMatrix(want))
	}
}

func wantNoMatrix(t *testing.T, what string, got impl.Matrix, ok bool) {
	t.Helper()
	if ok || got.Rows != 0 || got.Columns != 0 || len(got.Numbers) != 0 {
		t.Errorf("%s: got %s %v, want nothing", what, toldMatrix(got), ok)
	}
}

func wantList(t *testing.T, what string, got []float32, ok bool, want ...float32) {
	t.Helper()
	if !ok || fmt.Sprint(toldList(got)) != fmt.Sprint(toldList(want)) {
		t.Errorf("%s: got %08x %v, want %08x", what, toldList(got), ok, toldList(want))
	}
}

func wantNothing[T any](t *testing.T, what string, got []T, ok bool) {
	t.Helper()
	if ok || len(got) != 0 {
		t.Errorf("%s: got %v %v, want nothing", what, got, ok)
	}
}

func wantResult(t *testing.T, what string, got float32, ok bool, want float32) {
	t.Helper()
	if !ok || told(got) != told(want) {
		t.Errorf("%s: got %08x %v, want %08x", what, told(got), ok, told(want))
	}
}

func wantNoResult(t *testing.T, what string, got float32, ok bool) {
	t.Helper()
	if ok || told(got) != 0 {
		t.Errorf("%s: got %08x %v, want nothing", what, told(got), ok)
	}
}

var (
	minusZero = number(0x80000000)
	infinite  = number(0x7f800000)
	greatest  = number(0x7f7fffff)
)

// notFinite are the numbers that no matrix and no vector has.
func notFinite() []float32 {
	return []float32{infinite, -infinite, number(0x7fc00000), number(0xff800001)}
}

// notMatrices are values that are not valid matrices, each for one reason.
func notMatrices() []impl.Matrix {
	list := []impl.Matrix{
		{}, matrix(0, 0, 1), matrix(0, 1), matrix(1, 0), matrix(0, 4, 1, 2, 3, 4), matrix(1, 1), matrix(1, 1, 1, 2), matrix(2, 2, 1, 2, 3),
		matrix(2, 2, 1, 2, 3, 4, 5), matrix(-1, -1, 1), matrix(-2, 2, 1, 2, 3, 4), matrix(-2, -2, 1, 2, 3, 4),
		filled(13, 1, 1), filled(1, 13, 1), filled(13, 13, 1), matrix(12, 13, repeated[float32](1, 144)...),
		matrix(1<<32, 1<<32), matrix(math.MinInt64, 2), matrix(1<<62, 4), matrix(math.MaxInt64, math.MaxInt64, 1), matrix(math.MinInt64, math.MinInt64),
	}
	for _, x := range notFinite() {
		list = append(list, matrix(1, 1, x), matrix(2, 2, x, 1, 1, 1), matrix(2, 2, 1, 1, 1, x))
	}
	return list
}

// notVectors are lists that are not vectors.
func notVectors() [][]float32 {
	list := [][]float32{nil, {}, repeated[float32](1, 257)}
	for _, x := range notFinite() {
		list = append(list, []float32{x}, []float32{x, 1}, []float32{1, x})
	}
	return list
}

// notOrders are lists that are not orders.
func notOrders() [][]int64 {
	return [][]int64{
		nil, {}, {1}, {-1}, {0, 0}, {1, 1}, {1, 2}, {0, 2}, {0, 1, 1}, {2, 1, 2}, {0, -1}, {3, 1, 2}, {1, 0, 3},
		{0, 1, 2, 3, 4, 5, 6, 7, 8, 9, 10, 11, 12}, {12, 1, 2, 3, 4, 5, 6, 7, 8, 9, 10, 11}, {0, 1, 2, 3, 4, 5, 6, 7, 8, 9, 10, 10},
		{math.MaxInt64}, {math.MinInt64, 0}, {1 << 32, 0},
	}
}

func factor(square impl.Matrix, order ...int64) impl.Factor {
	return impl.Factor{Square: square, Order: order}
}

func toldFactor(f impl.Factor) string {
	return toldMatrix(f.Square) + " " + fmt.Sprint(f.Order)
}

func wantFactor(t *testing.T, what string, got impl.Factor, ok bool, want impl.Factor) {
	t.Helper()
	if !ok || toldFactor(got) != toldFactor(want) {
		t.Errorf("%s: got %s %v, want %s", what, toldFactor(got), ok, toldFactor(want))
	}
}

func wantNoFactor(t *testing.T, what string, got impl.Factor, ok bool) {
	t.Helper()
	wantNoMatrix(t, what, got.Square, ok)
	wantNothing(t, what, got.Order, ok)
}

// wantOrder compares lists of integers and how many of something there are.
func wantOrder(t *testing.T, what string, list []int64, count int64, ok bool, want []int64, wantCount int64) {
	t.Helper()
	if !ok || fmt.Sprint(list) != fmt.Sprint(want) || count != wantCount {
		t.Errorf("%s: got %v %d %v, want %v %d", what, list, count, ok, want, wantCount)
	}
}

// notSquares are values that are not valid squares.
func notSquares() []impl.Matrix {
	return append(notMatrices(), matrix(1, 2, 1, 2), matrix(2, 1, 1, 2), filled(12, 11, 1), filled(11, 12, 1))
}

// notFactors are values that are not valid factors.
func notFactors() []impl.Factor {
	unit := matrix(2, 2, 1, 0, 0, 1)
	list := []impl.Factor{
		{}, factor(matrix(2, 2, 0, 1, 1, 1), 0, 1), factor(matrix(2, 2, 1, 1, 1, minusZero), 0, 1), factor(matrix(1, 1, 0), 0), factor(matrix(1, 1, minusZero), 0),
		factor(matrix(3, 3, 1, 0, 0, 0, 0, 0, 0, 0, 1), 0, 1, 2), factor(unit, 0), factor(unit, 0, 1, 2), factor(matrix(1, 1, 1), 0, 1), factor(matrix(1, 1, 1), 1, 0),
	}
	for _, a := range notSquares() {
		list = append(list, factor(a, 0), factor(a, 1, 0))
	}
	for _, order := range notOrders() {
		list = append(list, factor(unit, order...), factor(matrix(1, 1, 1), order...))
	}
	return list
}

// notPairs are lists that are not vectors of two numbers.
func notPairs() [][]float32 {
	return append(notVectors(), []float32{1}, []float32{1, 2, 3}, repeated[float32](1, 12), repeated[float32](1, 256))
}

// middle returns the square with some numbers in its middle.
func middle(numbers ...float32) impl.Matrix {
	n := int64(len(numbers))
	square := filled(n, n, 0)
	for i, x := range numbers {
		square.Numbers[int64(i)*(n+1)] = x
	}
	return square
}

func chain(mids []float32, sides ...float32) impl.Chain {
	return impl.Chain{Mids: mids, Sides: sides}
}

func toldChain(c impl.Chain) string {
	return fmt.Sprintf("%08x beside %08x", toldList(c.Mids), toldList(c.Sides))
}

// notChains are values that are not valid chains, each for one reason.
func notChains() []impl.Chain {
	list := []impl.Chain{
		{}, chain([]float32{}), chain(nil, 1), chain([]float32{1}, 1), chain([]float32{1, 2}), chain([]float32{1, 2}, 1, 1), chain([]float32{1, 2, 3}, 1),
		chain(repeated[float32](1, 13), repeated[float32](1, 12)...), chain(repeated[float32](1, 12), repeated[float32](1, 12)...), chain(repeated[float32](1, 12), repeated[float32](1, 10)...),
	}
	for _, x := range notFinite() {
		list = append(list, chain([]float32{x}), chain([]float32{1, x}, 1), chain([]float32{x, 1}, 1), chain([]float32{1, 1, 1}, 1, x), chain([]float32{1, 1, 1}, x, 1))
	}
	return list
}

// untold stands for a number that a sparse square does not tell.
var untold = number(noNumberBits)

// few returns the square of numbers row by row, of which those that are not untold are told.
func few(side int64, numbers ...float32) impl.Sparse {
	a := impl.Sparse{Side: side, Starts: []int64{0}}
	for i, x := range numbers {
		if told(x) != noNumberBits {
			a.Columns = append(a.Columns, int64(i)%side)
			a.Values = append(a.Values, x)
		}
		if int64(i)%side == side-1 {
			a.Starts = append(a.Starts, int64(len(a.Columns)))
		}
	}
	return a
}

// fewAt returns the square that tells x where isTold.
func fewAt(side int64, x float32, isTold func(i, k int64) bool) impl.Sparse {
	numbers := repeated(untold, int(side*side))
	for i := range numbers {
		if isTold(int64(i)/side, int64(i)%side) {
			numbers[i] = x
		}
	}
	return few(side, numbers...)
}

// nothing returns the square of side rows that tells nothing.
func nothing(side int64) impl.Sparse {
	return fewAt(side, 1, func(i, k int64) bool { return false })
}

// whole returns the square of side rows that tells x everywhere, in rows before rows.
func whole(side, rows int64, x float32) impl.Sparse {
	return fewAt(side, x, func(i, k int64) bool { return i < rows })
}

func toldSparse(a impl.Sparse) string {
	return fmt.Sprintf("%d rows %d %d %08x", a.Side, a.Starts, a.Columns, toldList(a.Values))
}

func wantSparse(t *testing.T, what string, got impl.Sparse, ok bool, want impl.Sparse) {
	t.Helper()
	if !ok || toldSparse(got) != toldSparse(want) {
		t.Errorf("%s: got %s %v, want %s", what, toldSparse(got), ok, toldSparse(want))
	}
}

func wantNoSparse(t *testing.T, what string, got impl.Sparse, ok bool) {
	t.Helper()
	if ok || toldSparse(got) != toldSparse(impl.Sparse{}) {
		t.Errorf("%s: got %s %v, want nothing", what, toldSparse(got), ok)
	}
}

func square(side int64, starts, columns []int64, values ...float32) impl.Sparse {
	return impl.Sparse{Side: side, Starts: starts, Columns: columns, Values: values}
}

// notSparse are values that are not valid sparse squares, each for one reason.
func notSparse() []impl.Sparse {
	list := []impl.Sparse{
		{}, square(1, nil, nil), square(0, []int64{0}, nil), square(-1, nil, nil), square(-1, []int64{0}, nil), square(2, []int64{0, 0}, nil), square(2, []int64{0, 0, 0, 0}, nil), square(1, []int64{}, []int64{0}, 1),
		nothing(33), whole(33, 1, 1), square(math.MaxInt64, nil, nil), square(math.MinInt64, nil, nil), square(1<<32, []int64{0}, nil), square(math.MaxInt64, []int64{0, 0}, nil),
		// Starts that do not begin with 0, fall, or do not end with the number of Columns
		square(1, []int64{1, 1}, []int64{0}, 1), square(1, []int64{-1, 1}, []int64{0}, 1), square(2, []int64{1, 1, 2}, []int64{0, 1}, 1, 2), square(2, []int64{0, 2, 1}, []int64{0}, 1), square(3, []int64{0, 2, 1, 2}, []int64{0, 1}, 1, 2), square(2, []int64{0, -1, 1}, []int64{0}, 1),
		square(3, []int64{0, 3, 1, 2}, []int64{0, 1}, 1, 2), square(1, []int64{0, 0}, []int64{0}, 1), square(1, []int64{0, 2}, []int64{0}, 1), square(1, []int64{0, 1}, nil), square(2, []int64{0, 1, 1}, []int64{0, 1}, 1, 2), square(2, []int64{0, math.MaxInt64, 1}, []int64{0}, 1), square(2, []int64{0, math.MinInt64, 1}, []int64{0}, 1),
		// more or fewer Columns than Values
		square(1, []int64{0, 1}, []int64{0}), square(1, []int64{0, 1}, []int64{0}, 1, 2), square(1, []int64{0, 1}, nil, 1), square(2, []int64{0, 1, 2}, []int64{0, 1}, 1), square(2, []int64{0, 1, 2}, []int64{0, 1}, 1, 2, 3), square(1, []int64{0, 0}, nil, 1),
		// Columns that are no columns, out of order, or twice
		square(1, []int64{0, 1}, []int64{1}, 1), square(1, []int64{0, 1}, []int64{-1}, 1), square(2, []int64{0, 0, 1}, []int64{2}, 1), square(2, []int64{0, 2, 2}, []int64{1, 0}, 1, 2), square(2, []int64{0, 2, 2}, []int64{1, 1}, 1, 2), square(2, []int64{0, 0, 2}, []int64{0, 0}, 1, 2), square(3, []int64{0, 0, 0, 3}, []int64{0, 2, 1}, 1, 2, 3),
		square(2, []int64{0, 1, 2}, []int64{0, math.MinInt64}, 1, 2), square(2, []int64{0, 1, 2}, []int64{math.MaxInt64, 0}, 1, 2), square(1, []int64{0, 2}, []int64{0, 0}, 1, 2),
		fewAt(32, 1, func(i, k int64) bool { return i < 16 || i == 31 && k == 31 }), whole(23, 23, 1), whole(32, 32, 1), // 513, 529 and 1024 numbers
	}
	for _, x := range []float32{infinite, -infinite, number(0xff800001), untold} {
		list = append(list, square(1, []int64{0, 1}, []int64{0}, x), square(2, []int64{0, 2, 3}, []int64{0, 1, 1}, x, 1, 1), square(2, []int64{0, 1, 3}, []int64{1, 0, 1}, 1, 1, x))
	}
	return list
}

func integers(rows, columns int64, numbers ...int64) impl.Whole {
	return impl.Whole{Rows: rows, Columns: columns, Numbers: numbers}
}

// allOf returns integers that are all the same.
func allOf(rows, columns, n int64) impl.Whole {
	return integers(rows, columns, repeated(n, int(rows*columns))...)
}

// inMiddle returns the square with some integers in its middle.
func inMiddle(numbers ...int64) impl.Whole {
	n := int64(len(numbers))
	w := allOf(n, n, 0)
	for i, x := range numbers {
		w.Numbers[int64(i)*(n+1)] = x
	}
	return w
}

func toldWhole(w impl.Whole) string {
	return fmt.Sprintf("%d x %d %d", w.Rows, w.Columns, w.Numbers)
}

func wantWhole(t *testing.T, what string, got impl.Whole, ok bool, want impl.Whole) {
	t.Helper()
	if !ok || toldWhole(got) != toldWhole(want) {
		t.Errorf("%s: got %s %v, want %s", what, toldWhole(got), ok, toldWhole(want))
	}
}

func wantNoWhole(t *testing.T, what string, got impl.Whole, ok bool) {
	t.Helper()
	if ok || toldWhole(got) != toldWhole(impl.Whole{}) {
		t.Errorf("%s: got %s %v, want nothing", what, toldWhole(got), ok)
	}
}

func wantInteger(t *testing.T, what string, got int64, ok bool, want int64) {
	t.Helper()
	if !ok || got != want {
		t.Errorf("%s: got %d %v, want %d", what, got, ok, want)
	}
}

func wantNoInteger(t *testing.T, what string, got int64, ok bool) {
	t.Helper()
	if ok || got != 0 {
		t.Errorf("%s: got %d %v, want nothing", what, got, ok)
	}
}

func wantIntegers(t *testing.T, what string, got []int64, ok bool, want ...int64) {
	t.Helper()
	wantOrder(t, what, got, 0, ok, want, 0)
}

// notWholes are values that are not valid, each for one reason.
func notWholes() []impl.Whole {
	list := []impl.Whole{
		{}, integers(0, 0, 1), integers(0, 1), integers(1, 0), integers(0, 4, 1, 2, 3, 4), integers(1, 1), integers(1, 1, 1, 2), integers(2, 2, 1, 2, 3), integers(2, 2, 1, 2, 3, 4, 5),
		integers(-1, -1, 1), integers(-2, 2, 1, 2, 3, 4), integers(-2, -2, 1, 2, 3, 4), allOf(7, 1, 1), allOf(1, 7, 1), allOf(7, 7, 1), allOf(12, 3, 1), allOf(3, 12, 1), integers(6, 7, repeated[int64](1, 36)...),
		integers(1<<32, 1<<32), integers(math.MinInt64, 2), integers(1<<62, 4), integers(math.MaxInt64, math.MaxInt64, 1), integers(math.MinInt64, math.MinInt64),
	}
	for _, n := range []int64{1000001, -1000001, math.MaxInt64, math.MinInt64, 1 << 32, -1 << 32} {
		list = append(list, integers(1, 1, n), integers(2, 2, n, 1, 1, 1), integers(2, 2, 1, 1, 1, n))
	}
	return list
}

// notLow are values that are not low: those that are not valid, and some that are.
func notLow() []impl.Whole {
	list := append(notWholes(), allOf(6, 6, 1000000), allOf(1, 6, -1000000))
	for _, n := range []int64{101, -101, 1000000, -1000000} {
		list = append(list, integers(1, 1, n), integers(2, 2, n, 1, 1, 1), integers(2, 2, 1, 1, 1, n))
	}
	return list
}

// notLowSquares are values that are not low squares.
func notLowSquares() []impl.Whole {
	return append(notLow(), integers(1, 2, 1, 2), integers(2, 1, 1, 2), allOf(6, 5, 1), allOf(5, 6, 1), allOf(3, 4, 0))
}

func toldRing(list []complex64) string {
	pairs := make([][2]int64, len(list))
	for i, x := range list {
		pairs[i] = toldPair(x)
	}
	return fmt.Sprintf("%08x", pairs)
}

func wantRing(t *testing.T, what string, got []complex64, ok bool, want ...complex64) {
	t.Helper()
	if !ok || toldRing(got) != toldRing(want) {
		t.Errorf("%s: got %s %v, want %s", what, toldRing(got), ok, toldRing(want))
	}
}

// pairs returns complex numbers with the given bits of both parts, one after another.
func pairs(bits ...int64) []complex64 {
	var list []complex64
	for i := 0; i < len(bits); i += 2 {
		list = append(list, pair([2]int64{bits[i], bits[i+1]}))
	}
	return list
}

// notRings are lists that are not rings.
func notRings() [][]complex64 {
	list := [][]complex64{nil, {}, repeated[complex64](1, 33), repeated[complex64](1, 256), repeated[complex64](1, 257)}
	for _, x := range notFinite() {
		list = append(list, []complex64{complex(x, 0)}, []complex64{complex(0, x)}, []complex64{complex(x, x)}, []complex64{1, complex(x, 1)}, []complex64{complex(1, x), 1}, append(repeated[complex64](1, 31), complex(0, x)))
	}
	return list
}

// notFirstRows are lists that do not tell a square.
func notFirstRows() [][]float32 {
	return append(notVectors(), repeated[float32](1, 13), repeated[float32](1, 32), append(repeated[float32](1, 11), infinite))
}

func thirds(lower, middle, upper []float32) impl.Thirds {
	return impl.Thirds{Lower: lower, Middle: middle, Upper: upper}
}

// evenThirds returns thirds of count rows, with the same three numbers in each.
func evenThirds(count int, lower, middle, upper float32) impl.Thirds {
	t := thirds(repeated(lower, count), repeated(middle, count), repeated(upper, count))
	t.Lower[0], t.Upper[count-1] = 0, 0
	return t
}

func toldThirds(t impl.Thirds) string {
	return fmt.Sprintf("%08x %08x %08x", toldList(t.Lower), toldList(t.Middle), toldList(t.Upper))
}

// notThirds are values that are not valid thirds, each for one reason.
func notThirds() []impl.Thirds {
	one, two := []float32{1}, []float32{1, 2}
	list := []impl.Thirds{
		{}, thirds([]float32{}, []float32{}, []float32{}), thirds(nil, one, nil), thirds([]float32{0}, nil, []float32{0}), thirds([]float32{0}, one, nil), thirds(nil, one, []float32{0}),
		thirds([]float32{0, 1}, one, []float32{0}), thirds([]float32{0}, one, []float32{0, 0}), thirds([]float32{0}, two, []float32{1, 0}), thirds([]float32{0, 1}, two, []float32{0}), thirds([]float32{0, 1}, two, []float32{1, 1, 0}),
		evenThirds(33, 1, 4, 1), evenThirds(257, 1, 4, 1),
		// Lower begins, or Upper ends, with another number than a zero
		thirds(one, one, []float32{0}), thirds([]float32{0}, one, one), thirds([]float32{number(1), 1}, two, []float32{1, 0}), thirds([]float32{0, 1}, two, []float32{1, number(0x80000001)}), thirds([]float32{-1, 0}, two, []float32{0, 0}), thirds([]float32{0, 0}, two, []float32{0, greatest}),
	}
	for _, x := range notFinite() {
		list = append(list, thirds([]float32{0}, []float32{x}, []float32{0}), thirds([]float32{x}, one, []float32{0}), thirds([]float32{0}, one, []float32{x}))
		list = append(list, thirds([]float32{0, x}, two, []float32{1, 0}), thirds([]float32{0, 1}, []float32{1, x}, []float32{1, 0}), thirds([]float32{0, 1}, two, []float32{x, 0}))
	}
	return list
}

func sheet(name string, a impl.Matrix) impl.Sheet {
	return impl.Sheet{Name: name, Matrix: a}
}

func toldSheets(list []impl.Sheet) string {
	text := ""
	for _, s := range list {
		text += s.Name + " " + toldMatrix(s.Matrix) + ";"
	}
	return text
}

func wantSheets(t *testing.T, what string, got []impl.Sheet, size int64, want []impl.Sheet, wantSize int64) {
	t.Helper()
	if toldSheets(got) != toldSheets(want) || size != wantSize {
		t.Errorf("%s: got %s %d, want %s %d", what, toldSheets(got), size, toldSheets(want), wantSize)
	}
}

func wantNoSheet(t *testing.T, what string, got impl.Sheet, ok bool) {
	t.Helper()
	wantNoMatrix(t, what, got.Matrix, ok)
	wantBool(t, what+" has a name", got.Name == "", true)
}

// notNames are no names of sheets.
func notNames() []string {
	return []string{"", "abcdefghi", "A", "aB", "a1", "0", " ", "a ", " a", "a\x00", "\x00", "`", "{", "a`", "{a", "é", "a\xff", "\xe1", "abcdefgh\n", "abcdefghabcdefgh"}
}

// notSheets are sheets that are not valid, each for one reason.
func notSheets() []impl.Sheet {
	list := []impl.Sheet{{}}
	for _, name := range notNames() {
		list = append(list, sheet(name, matrix(1, 1, 1)))
	}
	for _, a := range notMatrices() {
		list = append(list, sheet("a", a))
	}
	return list
}

// outside are numbers that are no index of 3 rows, and no number of rows.
func outside() []int64 {
	return []int64{-1, 7, 13, math.MinInt64, math.MaxInt64, 1 << 32, -1 << 32}
}

// teller keeps what a function tells by its name.
type teller func(name string, ok bool, parts ...any)

// telling returns texts, and what keeps in them what functions tell.
func telling() (map[string]string, teller) {
	texts := map[string]string{}
	return texts, func(name string, ok bool, parts ...any) {
		texts[name] = "fail"
		if ok {
			texts[name] = strings.TrimSpace(fmt.Sprintln(parts...))
		}
	}
}

// wantTexts compares what functions tell with a row of a table.
func wantTexts(t *testing.T, what string, got, want map[string]string) {
	t.Helper()
	for name, text := range want {
		if got[name] != text {
			t.Errorf("%s of %s: got %s, want %s", name, what, got[name], text)
		}
	}
}

// wantHashes compares the hashes of all that each function tells.
func wantHashes(t *testing.T, texts []map[string]string, hashes map[string]uint64) {
	t.Helper()
	for name, want := range hashes {
		hash := fnv.New64a()
		for _, list := range texts {
			fmt.Fprintln(hash, list[name])
		}
		if got := hash.Sum64(); got != want {
			t.Errorf("%s: got %016x, want %016x", name, got, want)
		}
	}
}

// wantEqualResults checks that what is told of each pair of indices is the same each time,
// whoever calls.
func wantEqualResults(t *testing.T, former, latter int, tell func(i, k int) string) {
	t.Helper()
	first := map[[2]int]string{}
	for i := range former {
		for k := range latter {
			first[[2]int{i, k}] = tell(i, k)
		}
	}
	var group sync.WaitGroup
	for range 4 {
		group.Go(func() {
			for i := range former {
				for k := range latter {
					if got := tell(i, k); got != first[[2]int{i, k}] {
						t.Errorf("%d and %d: got %s, and %s before", i, k, got, first[[2]int{i, k}])
					}
				}
			}
		})
	}
	group.Wait()
}

// wantOwn checks that what functions return is the caller's own: no two lists of a result share
// memory, and whatever is written into a result, the next one is the same.
func wantOwn[T int64 | float32](t *testing.T, calls map[string]func() ([][]T, bool)) {
	t.Helper()
	for name, call := range calls {
		got, ok := call()
		want, _ := call()
		wantBool(t, name, ok, true)
		wantApart(t, name, got)
		again, ok := call()
		wantBool(t, name+" again", ok && fmt.Sprint(again) == fmt.Sprint(want), true)
	}
}

func toldDesk(d impl.Desk) string {
	return toldMatrix(d.Matrix) + ", " + fmtBits(d.Vector) + ", " + toldChain(d.Chain) + ", " + toldWhole(d.Whole)
}

func wantDesk(t *testing.T, what string, got impl.Desk, ok bool, want impl.Desk) {
	t.Helper()
	if !ok || toldDesk(got) != toldDesk(want) {
		t.Errorf("%s: got %s %v, want %s", what, toldDesk(got), ok, toldDesk(want))
	}
}

func wantNoDesk(t *testing.T, what string, got impl.Desk, ok bool) {
	t.Helper()
	if ok || toldDesk(got) != toldDesk(impl.Desk{}) {
		t.Errorf("%s: got %s %v, want nothing", what, toldDesk(got), ok)
	}
}

// newDesk returns the desk with which one begins, without the program.
func newDesk() impl.Desk {
	return impl.Desk{Matrix: matrix(2, 2, 2, 1, 1, 2), Vector: []float32{1, 0}, Chain: chain([]float32{2, 2}, 1), Whole: integers(2, 2, 2, 4, 6, 8)}
}

// changedDesk returns the desk with which one begins, after a change.
func changedDesk(change func(d *impl.Desk)) impl.Desk {
	d := newDesk()
	change(&d)
	return d
}

func deskWithMatrix(a impl.Matrix) impl.Desk {
	return changedDesk(func(d *impl.Desk) { d.Matrix = a })
}

func deskWithVector(v ...float32) impl.Desk {
	return changedDesk(func(d *impl.Desk) { d.Vector = v })
}

func deskWithChain(c impl.Chain) impl.Desk {
	return changedDesk(func(d *impl.Desk) { d.Chain = c })
}

func deskWithWhole(w impl.Whole) impl.Desk {
	return changedDesk(func(d *impl.Desk) { d.Whole = w })
}

// notDesks are desks that are not valid, each for one reason.
func notDesks() []impl.Desk {
	list := []impl.Desk{{}}
	for _, a := range notMatrices() {
		list = append(list, deskWithMatrix(a))
	}
	for _, v := range notVectors() {
		list = append(list, deskWithVector(v...))
	}
	for _, c := range notChains() {
		list = append(list, deskWithChain(c))
	}
	for _, w := range notWholes() {
		list = append(list, deskWithWhole(w))
	}
	return list
}

// slowNumbers returns the text of numbers without the program.
func slowNumbers(list []float32) string {
	if len(list) == 0 {
		return "none"
	}
	return strings.Trim(strings.ReplaceAll(fmtBits(list), " ", ","), "[]")
}

func slowIntegers(list []int64) string {
	if len(list) == 0 {
		return "none"
	}
	return strings.Trim(strings.ReplaceAll(fmt.Sprint(list), " ", ","), "[]")
}

func slowMatrixText(a impl.Matrix) string {
	return slowIntegers([]int64{a.Rows, a.Columns}) + ";" + slowNumbers(a.Numbers)
}

func slowChainText(c impl.Chain) string {
	return slowNumbers(c.Mids) + ";" + slowNumbers(c.Sides)
}

func slowWholeText(w impl.Whole) string {
	return slowIntegers([]int64{w.Rows, w.Columns}) + ";" + slowIntegers(w.Numbers)
}

// slowJournal returns the journal of lines, without the program.
func slowJournal(lines []string) string {
	var journal strings.Builder
	check := 0
	for _, line := range lines {
		for i := range len(line) {
			check = (863*check + int(line[i]) + 157) % 65003
		}
		fmt.Fprintf(&journal, "%d %s\n", check, line)
	}
	return journal.String()
}
