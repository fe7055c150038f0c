package tests

import (
	"fmt"
	"math"
	"testing"

	"loop.example/g01327/impl"
)

func TestPolarPart(t *testing.T) {
	root := number(0x3f3504f4) // nearly that of 1/2
	turned := matrix(2, 2, minusZero, -1, 1, 0)
	cases := []struct {
		a      impl.Matrix
		rounds int64
		want   impl.Matrix
	}{
		{matrix(1, 1, -5), 0, matrix(1, 1, -1)}, {matrix(1, 1, -5), 3, matrix(1, 1, -1)}, {matrix(1, 1, 1e-20), 64, matrix(1, 1, 1)}, {matrix(1, 1, 1.8e19), 1, matrix(1, 1, 1)},
		{matrix(2, 2, 3, 0, 0, 4), 0, matrix(2, 2, 0.6, 0, 0, 0.8)}, {matrix(2, 2, 3, 0, 0, 4), 1, matrix(2, 2, number(0x3f4ac084), 0, 0, number(0x3f71a9fc))}, {matrix(2, 2, 3, 0, 0, 4), 64, matrix(2, 2, 1, 0, 0, 1)},
		// columns that depend on one another
		{filled(2, 2, 3), 0, filled(2, 2, 0.5)}, {filled(2, 2, 3), 64, filled(2, 2, 0.5)}, {matrix(2, 2, 1, 2, 0, 0), 64, matrix(2, 2, number(0x3ee4f92e), number(0x3f64f92e), 0, 0)},
		{matrix(2, 2, 1, -2, 3, 4), 1, matrix(2, 2, number(0x3e9bcbf1), number(0xbee9b1ea), number(0x3f1bcbf0), number(0x3f42beee))}, {matrix(2, 2, 1, -2, 3, 4), 20, matrix(2, 2, root, -root, root, root)},
		{turned, 2, matrix(2, 2, minusZero, number(0xbf7b05dd), number(0x3f7b05dd), 0)}, {turned, 64, turned}, {middle(repeated[float32](7, 12)...), 64, middle(repeated[float32](1, 12)...)},
		// the norm is rounded far away, as squares are small
		{matrix(1, 1, number(0x1a400000)), 1, matrix(1, 1, number(0x3f7e8ef5))}, {matrix(1, 1, number(0x1a400000)), 8, matrix(1, 1, 1)},
	}
	for _, c := range cases {
		got, ok := impl.PolarPart(c.a, c.rounds)
		wantMatrix(t, fmt.Sprintf("PolarPart %s, %d", toldMatrix(c.a), c.rounds), got, ok, c.want)
	}
	check := func(a impl.Matrix, rounds int64) {
		t.Helper()
		got, ok := impl.PolarPart(a, rounds)
		wantNoMatrix(t, fmt.Sprintf("PolarPart %s, %d", toldMatrix(a), rounds), got, ok)
	}
	// the norm is 0, or not finite
	for _, a := range append(notSquares(), matrix(1, 1, 0), filled(2, 2, minusZero), filled(12, 12, 0), matrix(1, 1, 1e-23), matrix(1, 1, 2e19), matrix(2, 2, 1.5e19, 0, 0, 1.5e19), filled(12, 12, greatest)) {
		check(a, 0)
		check(a, 3)
	}
	for _, rounds := range notRounds() {
		check(matrix(2, 2, 3, 0, 0, 4), rounds)
		check(matrix(1, 1, 1), rounds)
	}
}

func TestExpMatrix(t *testing.T) {
	cases := []struct {
		a     impl.Matrix
		terms int64
		want  impl.Matrix
	}{
		{matrix(1, 1, 0), 1, matrix(1, 1, 1)}, {matrix(1, 1, minusZero), 32, matrix(1, 1, 1)}, {matrix(1, 1, 1), 2, matrix(1, 1, 2.640625)}, {matrix(1, 1, 1), 12, matrix(1, 1, number(0x402df855))}, {matrix(1, 1, 1), 32, matrix(1, 1, number(0x402df855))},
		{matrix(1, 1, -2), 3, matrix(1, 1, number(0x3e086f76))}, {matrix(1, 1, -80), 12, matrix(1, 1, number(0x05bfed28))}, {matrix(1, 1, 88), 12, matrix(1, 1, number(0x7ef8822b))},
		// a RowNorm of 0.5 is not halved, and a greater one is
		{matrix(1, 1, 0.5), 1, matrix(1, 1, 1.5)}, {matrix(1, 1, number(0x3f000001)), 1, matrix(1, 1, 1.5625)}, {matrix(2, 2, 0.25, -0.25, 0.5, 0), 2, matrix(2, 2, 1.21875, -0.28125, 0.5625, 0.9375)},
		{matrix(2, 2, 0.25, -0.25, number(0x3e800001), 0.25), 2, matrix(2, 2, 1.25, -0.3125, number(0x3ea00001), 1.25)},
		// it is halved MaxRounds times at most
		{matrix(1, 1, -1<<65), 1, matrix(1, 1, 1)}, {matrix(1, 1, -1<<64), 1, matrix(1, 1, 0)}, {matrix(2, 2, 0, greatest, 0, 0), 32, matrix(2, 2, 1, greatest, 0, 1)}, {matrix(2, 2, 0, 1, 0, 0), 1, matrix(2, 2, 1, 1, 0, 1)},
		{matrix(2, 2, 0, 1, -1, 0), 12, matrix(2, 2, number(0x3f0a5142), number(0x3f576aa5), number(0xbf576aa5), number(0x3f0a5142))},
		{matrix(2, 2, 1, 2, 3, 4), 12, matrix(2, 2, number(0x424fe026), number(0x42957917), number(0x42e035a2), number(0x432412e0))},
		{filled(12, 12, 0), 5, middle(repeated[float32](1, 12)...)},
	}
	for _, c := range cases {
		got, ok := impl.ExpMatrix(c.a, c.terms)
		wantMatrix(t, fmt.Sprintf("ExpMatrix %s, %d", toldMatrix(c.a), c.terms), got, ok, c.want)
	}
	check := func(a impl.Matrix, terms int64) {
		t.Helper()
		got, ok := impl.ExpMatrix(a, terms)
		wantNoMatrix(t, fmt.Sprintf("ExpMatrix %s, %d", toldMatrix(a), terms), got, ok)
	}
	// the RowNorm, a term, the sum or a square of it is not finite
	for _, a := range append(notSquares(), filled(2, 2, greatest), matrix(1, 1, greatest), matrix(1, 1, -greatest), matrix(1, 1, -1<<70), filled(12, 12, 100)) {
		check(a, 1)
		check(a, 32)
	}
	check(matrix(1, 1, 89), 12)
	for _, terms := range []int64{0, 33, -1, 64, math.MinInt64, math.MaxInt64, 1 << 32} {
		check(matrix(2, 2, 1, 2, 3, 4), terms)
		check(matrix(1, 1, 0), terms)
	}
}

func TestExampleOfSigns(t *testing.T) {
	got, ok := impl.SignsOf(matrix(2, 2, 1, 2, 3, 4))
	wantList(t, "SignsOf the rows 1 2 and 3 4", got, ok, -5, -2)
}

func TestSignsOf(t *testing.T) {
	nil3 := matrix(3, 3, 0, 1, 0, 0, 0, 1, 0, 0, 0)
	cases := []struct {
		a    impl.Matrix
		want []float32
	}{
		{matrix(1, 1, 5), []float32{-5}}, {matrix(1, 1, greatest), []float32{-greatest}}, {matrix(2, 2, 0, 1, -1, 0), []float32{minusZero, 1}}, {middle(1, 2, 3), []float32{-6, 11, -6}}, {middle(1, 2, 3, 4), []float32{-10, 35, -50, 24}},
		{matrix(3, 3, 1, 2, 3, 4, 5, 6, 7, 8, 10), []float32{-16, -12, 3}}, {matrix(2, 2, 1, greatest, 0, -1), []float32{minusZero, -1}},
		// the opposite of +0
		{matrix(1, 1, 0), []float32{minusZero}}, {matrix(1, 1, minusZero), []float32{minusZero}}, {filled(2, 2, 0), []float32{minusZero, minusZero}}, {nil3, []float32{minusZero, minusZero, minusZero}},
		{middle(repeated[float32](1, 12)...), []float32{-12, 66, -220, 495, -792, 924, -792, 495, -220, 66, -12, 1}},
		{matrix(2, 2, 1e19, 1, 1, -1e19), []float32{minusZero, number(0xfe967699)}},
	}
	for _, c := range cases {
		got, ok := impl.SignsOf(c.a)
		wantList(t, "SignsOf "+toldMatrix(c.a), got, ok, c.want...)
	}
	// a trace, a sum in the middle or a product is not finite
	for _, a := range append(notSquares(), middle(greatest, greatest), middle(2e19, 1, -2e19), middle(-2e38, 2e38, 2e38), matrix(2, 2, -greatest, 1, 1, 1e38), filled(12, 12, 1e30), matrix(3, 3, 0, 1e20, 0, 0, 0, 1e20, 0, 0, 0)) {
		got, ok := impl.SignsOf(a)
		wantNothing(t, "SignsOf "+toldMatrix(a), got, ok)
	}
}

func TestCompanionMatrix(t *testing.T) {
	cases := []struct {
		list []float32
		want impl.Matrix
	}{
		{[]float32{-5, -2}, matrix(2, 2, 5, 2, 1, 0)}, {[]float32{7}, matrix(1, 1, -7)}, {[]float32{0}, matrix(1, 1, minusZero)}, {[]float32{minusZero, 0, greatest}, matrix(3, 3, 0, minusZero, -greatest, 1, 0, 0, 0, 1, 0)},
		{[]float32{1, 2, 3, 4}, matrix(4, 4, -1, -2, -3, -4, 1, 0, 0, 0, 0, 1, 0, 0, 0, 0, 1, 0)},
	}
	for _, c := range cases {
		got, ok := impl.CompanionMatrix(c.list)
		wantMatrix(t, fmt.Sprintf("CompanionMatrix %v", c.list), got, ok, c.want)
	}
	got, ok := impl.CompanionMatrix(repeated[float32](-2, 12))
	want := filled(12, 12, 0)
	for i := range 12 {
		want.Numbers[i] = 2
		if i > 0 {
			want.Numbers[13*i-1] = 1
		}
	}
	wantMatrix(t, "CompanionMatrix of 12 numbers", got, ok, want)
	for _, list := range append(notVectors(), repeated[float32](1, 13), repeated[float32](1, 256)) {
		got, ok := impl.CompanionMatrix(list)
		wantNoMatrix(t, fmt.Sprintf("CompanionMatrix %v", list), got, ok)
	}
}
