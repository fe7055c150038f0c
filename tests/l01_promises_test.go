package tests

import (
	"fmt"
	"math"
	"strings"
	"sync"
	"testing"

	"loop.example/g01327/impl"
)

// P2: numbers and complex numbers are told by their bits.
func TestPromise2ToldByBits(t *testing.T) {
	list := append(specials(), spread(3000)...)
	for i, bits := range list {
		x := number(bits)
		back, ok := impl.FromBits(impl.BitsOf(x))
		wantBool(t, "FromBits BitsOf", ok && impl.SameNumber(back, x), true)
		text, ok := impl.NumbersText([]float32{x})
		if want := fmt.Sprintf("%08x", told(x)); text != want || !ok {
			t.Errorf("NumbersText %08x: got %q %v", bits, text, ok)
		}
		read, ok := impl.ReadNumbers(text)
		wantBool(t, "ReadNumbers NumbersText", ok && len(read) == 1 && impl.SameNumber(read[0], x), true)
		z := complex(x, number(list[len(list)-1-i]))
		text, ok = impl.ComplexText([]complex64{z})
		if want := fmt.Sprintf("%08x%08x", told(real(z)), told(imag(z))); text != want || !ok {
			t.Errorf("ComplexText: got %q %v, want %q", text, ok, want)
		}
		pairs, ok := impl.ReadComplex(text)
		wantBool(t, "ReadComplex ComplexText", ok && len(pairs) == 1 && impl.SameComplex(pairs[0], z), true)
	}
}

// P2: products of small integers are exact.
func TestPromise2ExactProducts(t *testing.T) {
	for a := -12; a <= 12; a++ {
		for b := -12; b <= 12; b++ {
			for c := -12; c <= 12; c++ {
				d := a - 2*b + 3*c
				x, y := complex(float32(a), float32(b)), complex(float32(c), float32(d))
				product := complex(float32(a*c-b*d), float32(a*d+b*c))
				if got := impl.MulComplex(x, y); got != product {
					t.Fatalf("%v times %v: got %v", x, y, got)
				}
				if got := impl.PowerOf(x); got != float32(a*a+b*b) {
					t.Fatalf("the power of %v: got %v", x, got)
				}
				if got := impl.ScaleComplex(x, float32(c)); got != complex(float32(a*c), float32(b*c)) {
					t.Fatalf("%v times %d: got %v", x, c, got)
				}
				if got := impl.QuotientOf(product, y); c*c+d*d > 0 && got != x {
					t.Fatalf("%v divided by %v: got %v", product, y, got)
				}
				if got, ok := impl.DotNumbers([]float32{float32(a), float32(b)}, []float32{float32(c), float32(d)}); got != float32(a*c+b*d) || !ok {
					t.Fatalf("the products of %d, %d and %d, %d: got %v %v", a, b, c, d, got, ok)
				}
			}
		}
	}
}

// resultsOf tells the results of all functions of the chapter by texts.
func resultsOf(a, b int64, s string) string {
	x, y := number(a), number(b)
	z, w := complex(x, y), complex(y, x)
	var out []any
	numbers := func(list ...float32) {
		for _, x := range list {
			out = append(out, told(x))
		}
	}
	pairs := func(list ...complex64) {
		for _, z := range list {
			out = append(out, toldPair(z))
		}
	}
	long := float64(x) * 1.00000001
	out = append(out, impl.SameNumber(x, y), impl.IsFinite(x), impl.BitsOf(x), impl.IsSubnormal(x), impl.SameComplex(z, w), impl.IsFiniteComplex(z), impl.IsName(s), impl.Decimal(a-b))
	numbers(impl.NarrowNumber(long), impl.FlushNumber(x), impl.PowerOf(z), impl.LongOf(z), impl.AngleOf(z), impl.SineTurns(x), impl.AngleTurns(y, x), impl.RootNumber(x), impl.ExpNumber(x), impl.LogNumber(x))
	pairs(impl.NarrowComplex(complex(long, 1)), impl.MulComplex(z, w), impl.ScaleComplex(z, y), impl.ConjugateOf(z), impl.QuotientOf(z, w), impl.PhasorOf(long))
	back, ok := impl.FromBits(a - b)
	numbers(back)
	tenths, ok2 := impl.TenthsOf(x)
	check, ok3 := impl.CheckOf(a-b, s)
	decimal, ok4 := impl.ReadDecimal(s)
	list, ok5 := impl.ReadList(s)
	read, ok6 := impl.ReadNumbers(s)
	numbers(read...)
	parts, ok7 := impl.ReadComplex(s)
	pairs(parts...)
	out = append(out, ok, tenths, ok2, check, ok3, decimal, ok4, list, ok5, ok6, ok7)
	return fmt.Sprint(out...)
}

// P1: every function returns, and returns equal results for equal arguments, whoever calls.
func TestPromise1EqualResults(t *testing.T) {
	texts := []string{"", "none", "3f800000", "3f80000000000000,ff800000ffc00000", "1,-2", "7", "ring", "\xff\x00", strings.Repeat(",", 100000), strings.Repeat("9", 100000)}
	list := specials()
	first := make([]string, 0, len(list)*len(list))
	for i, a := range list {
		for k, b := range list {
			first = append(first, resultsOf(a, b, texts[(i+k)%len(texts)]))
		}
	}
	var group sync.WaitGroup
	for range 4 {
		group.Go(func() {
			for i := len(list) - 1; i >= 0; i-- {
				for k, b := range list {
					if got := resultsOf(list[i], b, texts[(i+k)%len(texts)]); got != first[i*len(list)+k] {
						t.Errorf("%08x and %08x: got %s, and %s before", list[i], b, got, first[i*len(list)+k])
					}
				}
			}
		})
	}
	group.Wait()
}

// guarded returns a list with spare room behind it, and a function that tells whether the list or
// the room has changed.
func guarded[T any](list []T, spare T, told func(T) string) ([]T, func() bool) {
	room := append(append(make([]T, 0, len(list)+4), list...), spare, spare, spare, spare)
	text := func() string {
		out := ""
		for _, x := range room {
			out += told(x) + " "
		}
		return out
	}
	before := text()
	return room[:len(list)], func() bool { return text() != before }
}

// P1: no function modifies an argument, or the room behind it.
func TestPromise1ArgumentsStay(t *testing.T) {
	toldNumber := func(x float32) string { return fmt.Sprint(math.Float32bits(x)) }
	toldComplex := func(x complex64) string { return toldNumber(real(x)) + "/" + toldNumber(imag(x)) }
	toldInteger := func(n int64) string { return fmt.Sprint(n) }
	for _, count := range []int{0, 1, 2, 64, 65, 256, 257} {
		numbers, numbersChanged := guarded(repeated[float32](1.5, count), 9, toldNumber)
		pairs, pairsChanged := guarded(repeated[complex64](1+2i, count), 9i, toldComplex)
		integers, integersChanged := guarded(repeated[int64](-3, count), 9, toldInteger)
		for range 2 {
			impl.SumNumbers(numbers)
			impl.DotNumbers(numbers, numbers)
			impl.NumbersText(numbers)
			impl.SumComplex(pairs)
			impl.DotComplex(pairs, pairs)
			impl.DotConjugate(pairs, pairs)
			impl.PowersOf(pairs)
			impl.ComplexText(pairs)
			impl.ListText(integers)
		}
		wantBool(t, "numbers have changed", numbersChanged(), false)
		wantBool(t, "complex numbers have changed", pairsChanged(), false)
		wantBool(t, "integers have changed", integersChanged(), false)
	}
}

// wantNewLists changes a list that has been read, and the room behind it, and reads it again.
func wantNewLists[T any](t *testing.T, texts []string, other T, write func([]T) (string, bool), read func(string) ([]T, bool)) {
	t.Helper()
	for _, s := range texts {
		first, _ := read(s)
		for i := range first {
			first[i] = other
		}
		_ = append(first, other)
		second, ok := read(s)
		text, _ := write(second)
		wantBool(t, "the list of "+s+" again", ok && text == s, true)
	}
}

// P1: what a function has returned is the caller's own.
func TestPromise1ResultsAreNew(t *testing.T) {
	wantNewLists(t, []string{"none", "3f800000", "3f800000,40000000"}, -1, impl.NumbersText, impl.ReadNumbers)
	wantNewLists(t, []string{"none", "3f80000000000000", "3f80000000000000,0000000040000000"}, -1i, impl.ComplexText, impl.ReadComplex)
	wantNewLists(t, []string{"none", "1", "1,2,3"}, -1, impl.ListText, impl.ReadList)
}

func TestLimitsOfNumbers(t *testing.T) {
	if impl.MaxNumbers != 256 || impl.MaxValue != 1000000000000000 || impl.MaxItems != 64 || impl.CheckSize != 65003 {
		t.Error("a limit of chapter 1 is not what the document says")
	}
}
