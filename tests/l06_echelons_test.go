package tests

import (
	"testing"

	"loop.example/g01327/impl"
)

func wantEchelon(t *testing.T, w, echelon, made impl.Whole) {
	t.Helper()
	h, u, ok := impl.EchelonOf(w)
	wantWhole(t, "EchelonOf "+toldWhole(w), h, ok, echelon)
	wantWhole(t, "what makes EchelonOf "+toldWhole(w), u, ok, made)
}

func TestExampleOfEchelon(t *testing.T) {
	wantEchelon(t, integers(2, 2, 2, 4, 6, 8), integers(2, 2, 2, 0, 0, 4), integers(2, 2, -2, 1, 3, -1))
}

func TestEchelonOf(t *testing.T) {
	cases := []struct{ w, echelon, made impl.Whole }{
		{integers(2, 2, 2, 4, 6, 8), integers(2, 2, 2, 0, 0, 4), integers(2, 2, -2, 1, 3, -1)}, {integers(1, 1, 0), integers(1, 1, 0), integers(1, 1, 1)}, {integers(1, 1, -5), integers(1, 1, 5), integers(1, 1, -1)}, {integers(1, 1, 5), integers(1, 1, 5), integers(1, 1, 1)}, {integers(1, 3, 0, -3, 7), integers(1, 3, 0, 3, -7), integers(1, 1, -1)}, {integers(1, 3, 0, 3, -7), integers(1, 3, 0, 3, -7), integers(1, 1, 1)}, {integers(2, 2, 1, 2, 3, 4), integers(2, 2, 1, 0, 0, 2), integers(2, 2, -2, 1, 3, -1)}, {integers(2, 3, 3, -1, 2, -2, 5, 0), integers(2, 3, 1, 4, 2, 0, 13, 4), integers(2, 2, 1, 1, 2, 3)}, {integers(3, 2, 3, -1, 2, -2, 5, 0), integers(3, 2, 1, 0, 0, 1, 0, 0), integers(3, 3, -2, 1, 1, 3, -2, -1, -10, 5, 4)}, {integers(4, 4, 2, 1, 0, -1, 0, 3, 5, 2, 1, 1, 1, 1, -4, 0, 2, 6), integers(4, 4, 1, 0, 0, 5, 0, 1, 0, 1, 0, 0, 1, 7, 0, 0, 0, 12), integers(4, 4, -2, -1, 5, 0, 3, 0, -2, 1, -3, -1, 6, 0, -2, -2, 8, 1)}, {integers(2, 6, 6, 1, 2, 3, 4, 5, 9, 5, 4, 3, 2, 1), integers(2, 6, 3, 4, 2, 0, -2, -4, 0, 7, 2, -3, -8, -13), integers(2, 2, -1, 1, -3, 2)}, {integers(6, 2, 6, 1, 2, 3, 4, 5, 9, 5, 4, 3, 2, 1), integers(6, 2, 1, 0, 0, 1, 0, 0, 0, 0, 0, 0, 0, 0), integers(6, 6, 0, 10, -7, 1, 0, 0, 0, 2, -1, 0, 0, 0, 1, 13, -8, 0, 0, 0, 0, -25, 17, -2, 0, 0, 0, 4, -3, 0, 1, 0, 0, 3, -2, 0, 0, 1)},
		// the least one comes first, the first one of several, and changes places with the first row
		{integers(3, 1, 4, 6, 10), integers(3, 1, 2, 0, 0), integers(3, 3, -1, 1, 0, 3, -2, 0, -1, -1, 1)}, {integers(3, 1, -4, 6, -10), integers(3, 1, 2, 0, 0), integers(3, 3, -2, -1, 0, -3, -2, 0, -4, -1, 1)}, {integers(3, 1, 0, 0, -3), integers(3, 1, 3, 0, 0), integers(3, 3, 0, 0, -1, 0, 1, 0, 1, 0, 0)}, {integers(2, 2, 0, 5, 3, 0), integers(2, 2, 3, 0, 0, 5), integers(2, 2, 0, 1, 1, 0)}, {integers(3, 1, 2, -2, 2), integers(3, 1, 2, 0, 0), integers(3, 3, 1, 0, 0, 1, 1, 0, -1, 0, 1)}, {integers(3, 1, 3, 2, -2), integers(3, 1, 1, 0, 0), integers(3, 3, 1, -1, 0, -2, 3, 0, 0, 1, 1)}, {integers(3, 1, 5, -3, 3), integers(3, 1, 1, 0, 0), integers(3, 3, -1, -2, 0, -3, -5, 0, 0, 1, 1)}, {integers(4, 1, 9, 6, 3, -3), integers(4, 1, 3, 0, 0, 0), integers(4, 4, 0, 0, 1, 0, 0, 1, -2, 0, 1, 0, -3, 0, 0, 0, 1, 1)}, {integers(4, 2, 0, 1, 0, 2, 7, 3, 0, 4), integers(4, 2, 7, 0, 0, 1, 0, 0, 0, 0), integers(4, 4, -3, 0, 1, 0, 1, 0, 0, 0, -2, 1, 0, 0, -4, 0, 0, 1)},
		// quotients are rounded down, also below 0, in the rows behind and in those before
		{integers(2, 1, -7, 2), integers(2, 1, 1, 0), integers(2, 2, 1, 4, -2, -7)}, {integers(2, 1, 7, -2), integers(2, 1, 1, 0), integers(2, 2, -1, -4, -2, -7)}, {integers(2, 1, -7, -2), integers(2, 1, 1, 0), integers(2, 2, -1, 3, -2, 7)}, {integers(2, 1, 6, -2), integers(2, 1, 2, 0), integers(2, 2, 0, -1, 1, 3)}, {integers(2, 2, 5, 7, 0, -3), integers(2, 2, 5, 1, 0, 3), integers(2, 2, 1, 2, 0, -1)}, {integers(2, 2, 5, -7, 0, 3), integers(2, 2, 5, 2, 0, 3), integers(2, 2, 1, 3, 0, 1)}, {integers(2, 2, 1, 1, 0, 1), integers(2, 2, 1, 0, 0, 1), integers(2, 2, 1, -1, 0, 1)}, {integers(2, 2, 1, -1, 0, 2), integers(2, 2, 1, 1, 0, 2), integers(2, 2, 1, 1, 0, 1)}, {integers(3, 3, 1, -7, 9, 0, 2, -5, 0, 0, -3), integers(3, 3, 1, 1, 1, 0, 2, 1, 0, 0, 3), integers(3, 3, 1, 4, -4, 0, 1, -2, 0, 0, -1)},
		// rows that depend on one another, rows and columns of 0
		{integers(2, 2, 1, 2, 2, 4), integers(2, 2, 1, 2, 0, 0), integers(2, 2, 1, 0, -2, 1)}, {integers(3, 3, 1, 2, 3, 4, 5, 6, 7, 8, 9), integers(3, 3, 1, 2, 3, 0, 3, 6, 0, 0, 0), integers(3, 3, 1, 0, 0, 4, -1, 0, 1, -2, 1)}, {integers(3, 3, 0, 0, 0, 0, 0, 0, 0, 0, 0), integers(3, 3, 0, 0, 0, 0, 0, 0, 0, 0, 0), integers(3, 3, 1, 0, 0, 0, 1, 0, 0, 0, 1)}, {integers(3, 4, 0, 0, 2, 1, 0, 0, 3, 5, 0, 0, -4, 2), integers(3, 4, 0, 0, 1, 0, 0, 0, 0, 1, 0, 0, 0, 0), integers(3, 3, -29, 9, -8, 7, -2, 2, -26, 8, -7)}, {integers(3, 3, 0, 0, 0, 2, 4, 6, 3, 6, 9), integers(3, 3, 1, 2, 3, 0, 0, 0, 0, 0, 0), integers(3, 3, 0, -1, 1, 1, 0, 0, 0, 3, -2)}, {integers(2, 3, 0, 2, 3, 0, 4, 6), integers(2, 3, 0, 2, 3, 0, 0, 0), integers(2, 2, 1, 0, -2, 1)}, {integers(3, 2, 1, 1, 1, 1, 1, 1), integers(3, 2, 1, 1, 0, 0, 0, 0), integers(3, 3, 1, 0, 0, -1, 1, 0, -1, 0, 1)},
		// numbers on the way up to their limit, of both
		{integers(2, 2, 1, 1000, 1000, 0), integers(2, 2, 1, 1000, 0, 1000000), integers(2, 2, 1, 0, 1000, -1)}, {integers(2, 2, -1, -1000, 1000, 0), integers(2, 2, 1, 1000, 0, 1000000), integers(2, 2, -1, 0, -1000, -1)}, {integers(2, 2, 1, -1000, 1000, 0), integers(2, 2, 1, 999000, 0, 1000000), integers(2, 2, -999, 1, -1000, 1)}, {integers(3, 2, 1, 1000, 1000, 0, 0, 10000), integers(3, 2, 1, 1000, 0, 10000, 0, 0), integers(3, 3, 1, 0, 0, 0, 0, 1, -1000, 1, 100)}, {integers(3, 2, 1, 0, 10000, 1, 0, 100), integers(3, 2, 1, 0, 0, 1, 0, 0), integers(3, 3, 1, 0, 0, -10000, 1, 0, 1000000, -100, 1)}, {integers(4, 3, 1, 0, 0, 10000, 1, 0, 0, 100, 5, 0, 99, 4), integers(4, 3, 1, 0, 0, 0, 1, 0, 0, 0, 1, 0, 0, 0), integers(4, 4, 1, 0, 0, 0, -10000, 1, 0, 0, 10000, -1, 1, -1, 950000, -95, -4, 5)}, {integers(3, 3, 1, 1000, 0, 0, 1, 1000, 0, 0, 1), integers(3, 3, 1, 0, 0, 0, 1, 0, 0, 0, 1), integers(3, 3, 1, -1000, 1000000, 0, 1, -1000, 0, 0, 1)}, {integers(3, 3, 1, 10000, 0, 0, 1, 100, 0, 0, 100), integers(3, 3, 1, 0, 0, 0, 1, 0, 0, 0, 100), integers(3, 3, 1, -10000, 10000, 0, 1, -1, 0, 0, 1)}, {integers(2, 1, 1000000, 999999), integers(2, 1, 1, 0), integers(2, 2, 1, -1, -999999, 1000000)}, {integers(2, 1, 1000000, -1), integers(2, 1, 1, 0), integers(2, 2, 0, -1, 1, 1000000)}, {integers(2, 2, 1, 0, 1000000, 1), integers(2, 2, 1, 0, 0, 1), integers(2, 2, 1, 0, -1000000, 1)}, {integers(2, 2, 1, 1000000, 0, 1), integers(2, 2, 1, 0, 0, 1), integers(2, 2, 1, -1000000, 0, 1)}, {integers(2, 2, 1, -1000000, 0, 1), integers(2, 2, 1, 0, 0, 1), integers(2, 2, 1, 1000000, 0, 1)}, {integers(1, 6, -1000000, -1000000, -1000000, -1000000, -1000000, -1000000), integers(1, 6, 1000000, 1000000, 1000000, 1000000, 1000000, 1000000), integers(1, 1, -1)}, {integers(1, 2, 1000000, -1000000), integers(1, 2, 1000000, -1000000), integers(1, 1, 1)},
	}
	for _, c := range cases {
		wantEchelon(t, c.w, c.echelon, c.made)
	}
	wantEchelon(t, inMiddle(repeated[int64](1000000, 6)...), inMiddle(repeated[int64](1000000, 6)...), inMiddle(repeated[int64](1, 6)...))
	wantEchelon(t, inMiddle(repeated[int64](-1000000, 6)...), inMiddle(repeated[int64](1000000, 6)...), inMiddle(repeated[int64](-1, 6)...))
	wantEchelon(t, allOf(6, 6, 0), allOf(6, 6, 0), inMiddle(repeated[int64](1, 6)...))
}

func TestEchelonOfFails(t *testing.T) {
	greater := []impl.Whole{
		// a number of the echelon is 1000001, or its opposite, on the way, at last too, or not
		integers(2, 2, 1, 1000, 1000, -1), integers(2, 2, 1, -1000, 1000, 1), integers(2, 2, -1, -1000, 1000, -1), integers(2, 2, 1000, -1, 1, 1000), integers(3, 2, 1, 1000, 1000, -1, 0, 9901), integers(3, 2, -1, 1000, 1000, 1, 0, 9901),
		// one of what makes it
		integers(3, 2, 1, 0, 9901, 1, 0, 101), integers(3, 2, -1, 0, 9901, 1, 0, 101), integers(4, 3, 1, 0, 0, 9901, 1, 0, 0, 101, 5, 0, 100, 4),
		// in a row before the one that is taken away
		integers(3, 3, 1, 1000, 0, 0, 1, 1001, 0, 0, 1), integers(3, 3, 1, 9901, 0, 0, 1, 101, 0, 0, 101), integers(3, 3, 1, -9901, 0, 0, 1, 101, 0, 0, 101),
		integers(2, 2, 999999, 1000000, 1000000, -1000000), integers(2, 2, 1, 1000000, 1000000, 1), integers(2, 2, 1, -1000000, 1000000, 1000000),
	}
	for _, w := range append(notWholes(), greater...) {
		h, u, ok := impl.EchelonOf(w)
		wantNoWhole(t, "EchelonOf "+toldWhole(w), h, ok)
		wantNoWhole(t, "what makes EchelonOf "+toldWhole(w), u, ok)
	}
}
