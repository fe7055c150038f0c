package tests

import (
	"math"
	"testing"

	"loop.example/g01327/impl"
)

// number returns the number with the given bits without the program.
func number(bits int64) float32 {
	return math.Float32frombits(uint32(bits))
}

func pair(bits [2]int64) complex64 {
	return complex(number(bits[0]), number(bits[1]))
}

// told returns the bits of x without the program, and the same ones for all not-a-numbers.
func told(x float32) int64 {
	if math.IsNaN(float64(x)) {
		return noNumberBits
	}
	return int64(math.Float32bits(x))
}

func toldPair(x complex64) [2]int64 {
	return [2]int64{told(real(x)), told(imag(x))}
}

func wantNumber(t *testing.T, what string, got float32, bits int64) {
	t.Helper()
	if told(got) != bits {
		t.Errorf("%s: got %08x, want %08x", what, told(got), bits)
	}
}

func wantComplex(t *testing.T, what string, got complex64, bits [2]int64) {
	t.Helper()
	if toldPair(got) != bits {
		t.Errorf("%s: got %08x, want %08x", what, toldPair(got), bits)
	}
}

func wantBool(t *testing.T, what string, got, want bool) {
	t.Helper()
	if got != want {
		t.Errorf("%s: got %v, want %v", what, got, want)
	}
}

// specials are bits at the edges of all kinds of numbers.
func specials() []int64 {
	return []int64{
		0x00000000, 0x80000000, // both zeros
		0x00000001, 0x80000001, 0x007fffff, 0x807fffff, // subnormal numbers
		0x00800000, 0x80800000, 0x00800001, // the least normal ones
		0x3f800000, 0xbf800000, 0x40400000, 0x3e800000, 0x3f000000, 0x3f400000, 0xbe800000,
		0x3f7fffff, 0x4b800000, 0x43480000, 0xc3480000, 0x43480001, 0xc3480001,
		0x597fffff, 0x59800000, 0xd9800000,
		0x7f7fffff, 0xff7fffff, // the greatest ones
		0x7f800000, 0xff800000, // infinities
		0x7fc00000, 0xffc00000, 0x7f800001, 0xff800001, 0x7fffffff, 0xffffffff, // not-a-numbers
	}
}

// spread returns bits all over the numbers, the same ones each time.
func spread(count int) []int64 {
	list := make([]int64, count)
	seed := uint32(12345)
	for i := range list {
		seed = seed*1664525 + 1013904223
		list[i] = int64(seed ^ seed>>15)
	}
	return list
}

func repeated[T any](x T, count int) []T {
	list := make([]T, count)
	for i := range list {
		list[i] = x
	}
	return list
}

func sumText(t *testing.T, start int64, s string) int64 {
	t.Helper()
	check, ok := impl.CheckOf(start, s)
	if !ok {
		t.Errorf("CheckOf(%d, %q) failed", start, s)
	}
	return check
}
