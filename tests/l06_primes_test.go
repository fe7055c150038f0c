package tests

import (
	"fmt"
	"math"
	"slices"
	"testing"

	"loop.example/g01327/impl"
)

// isPrime tells primes by all products.
func isPrime(p int64) bool {
	if p < 2 || p > 997 {
		return false
	}
	for a := int64(2); a < p; a++ {
		for b := a; a*b <= p; b++ {
			if a*b == p {
				return false
			}
		}
	}
	return true
}

// primes are all primes from 2 to 997.
func primes() []int64 {
	return slices.DeleteFunc(sequence(0, 1000), func(n int64) bool { return !isPrime(n) })
}

// notPrimes are numbers that are not primes from 2 to 997.
func notPrimes() []int64 {
	return []int64{0, 1, -1, -2, -3, -5, -997, 4, 6, 8, 9, 25, 49, 121, 961, 989, 991 * 2, 996, 998, 999, 1000, 1009, 1013, 10007, 2147483647, 1 << 32, 1<<32 + 5, math.MaxInt64, math.MinInt64}
}

func TestIsPrime(t *testing.T) {
	for p := int64(-1100); p <= 1100; p++ {
		wantBool(t, fmt.Sprint("IsPrime ", p), impl.IsPrime(p), isPrime(p))
	}
	for _, p := range notPrimes() {
		wantBool(t, fmt.Sprint("IsPrime ", p), impl.IsPrime(p), false)
	}
	list := primes()
	wantBool(t, "there are 168 primes from 2 to 997", len(list) == 168 && list[0] == 2 && list[167] == 997, true)
	for _, p := range list {
		wantBool(t, fmt.Sprint("IsPrime ", p), impl.IsPrime(p), true)
	}
}

func TestBackOver(t *testing.T) {
	cases := []struct{ a, p, want int64 }{
		{3, 7, 5}, {1, 2, 1}, {-1, 2, 1}, {1, 997, 1}, {996, 997, 996}, {-1, 997, 996}, {2, 997, 499}, {998, 997, 1}, {10, 7, 5}, {-4, 7, 5}, {-11, 7, 5}, {math.MaxInt64, 3, 1}, {math.MinInt64, 3, 1}, {math.MaxInt64, 997, 892}, {math.MinInt64, 997, 277}, {1000000, 997, 554},
	}
	for _, c := range cases {
		got, ok := impl.BackOver(c.a, c.p)
		wantInteger(t, fmt.Sprint("BackOver ", c.a, c.p), got, ok, c.want)
	}
	for _, p := range []int64{2, 3, 5, 7, 31, 101, 991, 997} {
		for a := -2 * p; a <= 2*p; a++ {
			got, ok := impl.BackOver(a, p)
			if a%p == 0 {
				wantNoInteger(t, fmt.Sprint("BackOver ", a, p), got, ok)
				continue
			}
			wantBool(t, fmt.Sprint("BackOver ", a, p), ok && 0 < got && got < p && ((a*got)%p+p)%p == 1, true)
		}
	}
	for _, p := range notPrimes() {
		for _, a := range []int64{0, 1, -1, 2, 5, math.MaxInt64, math.MinInt64} {
			got, ok := impl.BackOver(a, p)
			wantNoInteger(t, fmt.Sprint("BackOver ", a, p), got, ok)
		}
	}
	for _, a := range []int64{14, 0, -7, 7, 7 << 40, -(7 << 40), 7 * (math.MaxInt64 / 7)} {
		got, ok := impl.BackOver(a, 7)
		wantNoInteger(t, fmt.Sprint("BackOver ", a, 7), got, ok)
	}
}

// overRow has what pivots tell of w over a prime; det is -1 if it is no square.
type overRow struct {
	w            impl.Whole
	p, rank, det int64
	nulls        [][]int64
}

func overRows() []overRow {
	return []overRow{
		{integers(2, 2, 1, 2, 2, 4), 5, 1, 0, [][]int64{{3, 1}}}, {integers(2, 2, 1, 2, 3, 4), 5, 2, 3, nil}, {integers(2, 2, 2, 4, 6, 8), 5, 2, 2, nil}, {integers(2, 2, 2, 4, 6, 8), 2, 0, 0, [][]int64{{1, 0}, {0, 1}}}, {integers(2, 2, 1, 2, 3, 4), 2, 1, 0, [][]int64{{0, 1}}}, {integers(1, 1, 0), 7, 0, 0, [][]int64{{1}}}, {integers(1, 1, 7), 7, 0, 0, [][]int64{{1}}}, {integers(1, 1, -7), 7, 0, 0, [][]int64{{1}}}, {integers(1, 1, 6), 7, 1, 6, nil}, {integers(1, 1, -1), 2, 1, 1, nil}, {integers(1, 1, 1000000), 997, 1, 9, nil}, {integers(1, 1, -1000000), 997, 1, 988, nil},
		// numbers below 0, and numbers that a prime divides
		{integers(2, 2, -1, -2, -2, -4), 3, 1, 0, [][]int64{{1, 1}}}, {integers(2, 2, -1, 2, 3, -4), 7, 2, 5, nil}, {integers(2, 2, 7, 1, 14, 3), 7, 1, 0, [][]int64{{1, 0}}}, {integers(2, 2, 0, 7, -7, 0), 7, 0, 0, [][]int64{{1, 0}, {0, 1}}}, {integers(2, 2, 0, 1, 1, 0), 3, 2, 2, nil}, {integers(3, 3, 997, -997, 1994, 1, 2, 3, 0, 0, 998), 997, 2, 0, [][]int64{{995, 1, 0}}}, {integers(3, 3, 998, 999, -1, -996, -2, 5, 4, 4, 4), 997, 3, 989, nil},
		// one row, one column, more rows than columns and fewer
		{integers(1, 6, 0, 0, 3, 0, 5, 6), 7, 1, -1, [][]int64{{1, 0, 0, 0, 0, 0}, {0, 1, 0, 0, 0, 0}, {0, 0, 0, 1, 0, 0}, {0, 0, 3, 0, 1, 0}, {0, 0, 5, 0, 0, 1}}}, {integers(6, 1, 0, 0, 3, 0, 5, 6), 7, 1, -1, nil}, {integers(2, 4, 1, 2, 3, 4, 2, 4, 6, 9), 5, 2, -1, [][]int64{{3, 1, 0, 0}, {2, 0, 1, 0}}}, {integers(4, 2, 1, 2, 2, 4, 3, 6, 4, 9), 5, 2, -1, nil}, {integers(3, 5, 0, 0, 2, 1, 4, 0, 0, 1, 1, 1, 0, 0, 3, 2, 5), 11, 2, -1, [][]int64{{1, 0, 0, 0, 0}, {0, 1, 0, 0, 0}, {0, 0, 8, 2, 1}}}, {integers(6, 3, 2, 4, 6, 1, 2, 3, 1, 1, 1, 0, 1, 2, 5, 5, 5, 9, 8, 7), 13, 2, -1, [][]int64{{1, 11, 1}}}, {integers(2, 6, 0, 1, 0, 2, 0, 3, 0, 0, 0, 1, 1, 1), 2, 2, -1, [][]int64{{1, 0, 0, 0, 0, 0}, {0, 0, 1, 0, 0, 0}, {0, 0, 0, 1, 1, 0}, {0, 1, 0, 1, 0, 1}}},
		// rows that depend on one another, rows and columns of 0
		{integers(3, 3, 1, 2, 3, 4, 5, 6, 7, 8, 9), 5, 2, 0, [][]int64{{1, 3, 1}}}, {integers(3, 3, 1, 2, 3, 4, 5, 6, 7, 8, 9), 3, 1, 0, [][]int64{{1, 1, 0}, {0, 0, 1}}}, {integers(3, 3, 1, 2, 3, 4, 5, 6, 7, 8, 10), 3, 2, 0, [][]int64{{1, 1, 0}}}, {integers(4, 4, 2, 1, 0, -1, 0, 3, 5, 2, 1, 1, 1, 1, -4, 0, 2, 6), 2, 3, 0, [][]int64{{1, 1, 1, 1}}}, {integers(4, 4, 2, 1, 0, -1, 0, 3, 5, 2, 1, 1, 1, 1, -4, 0, 2, 6), 3, 3, 0, [][]int64{{1, 2, 2, 1}}}, {integers(4, 4, 2, 1, 0, -1, 0, 3, 5, 2, 1, 1, 1, 1, -4, 0, 2, 6), 5, 4, 2, nil}, {integers(4, 4, 2, 1, 0, -1, 0, 3, 5, 2, 1, 1, 1, 1, -4, 0, 2, 6), 997, 4, 12, nil}, {allOf(3, 3, 0), 997, 0, 0, [][]int64{{1, 0, 0}, {0, 1, 0}, {0, 0, 1}}}, {integers(3, 3, 0, 1, 2, 0, 3, 4, 0, 5, 6), 5, 2, 0, [][]int64{{1, 0, 0}}}, {integers(3, 3, 0, 0, 0, 1, 2, 3, 4, 5, 6), 5, 2, 0, [][]int64{{1, 3, 1}}}, {allOf(6, 6, 1000000), 997, 1, 0, [][]int64{{996, 1, 0, 0, 0, 0}, {996, 0, 1, 0, 0, 0}, {996, 0, 0, 1, 0, 0}, {996, 0, 0, 0, 1, 0}, {996, 0, 0, 0, 0, 1}}}, {allOf(6, 6, -1000000), 2, 0, 0, [][]int64{{1, 0, 0, 0, 0, 0}, {0, 1, 0, 0, 0, 0}, {0, 0, 1, 0, 0, 0}, {0, 0, 0, 1, 0, 0}, {0, 0, 0, 0, 1, 0}, {0, 0, 0, 0, 0, 1}}},
		// pivots that change places
		{integers(3, 3, 0, 1, 0, 0, 0, 1, 1, 0, 0), 5, 3, 1, nil}, {integers(3, 3, 0, 0, 1, 0, 1, 0, 1, 0, 0), 5, 3, 4, nil}, {integers(3, 3, 0, 2, 1, 3, 0, 1, 1, 1, 1), 7, 3, 6, nil}, {integers(3, 3, 2, 2, 1, 4, 4, 1, 1, 1, 1), 7, 2, 0, [][]int64{{6, 1, 0}}}, {integers(4, 4, 0, 0, 0, 3, 0, 0, 2, 0, 0, 5, 0, 0, 4, 0, 0, 0), 11, 4, 10, nil},
		// 6 rows
		{inMiddle(1, 2, 3, 4, 5, 6), 7, 6, 6, nil}, {inMiddle(1, 2, 3, 4, 5, 6), 3, 4, 0, [][]int64{{0, 0, 1, 0, 0, 0}, {0, 0, 0, 0, 0, 1}}}, {integers(6, 6, 2, -1, 0, 3, 5, -7, 4, 4, 1, -2, 0, 9, 0, 0, 3, 1, 1, 1, -8, 2, 6, 5, -3, 1, 1, 1, 1, 1, 2, 2, 9, -4, 0, 7, 3, -5), 997, 6, 442, nil}, {integers(6, 6, 2, -1, 0, 3, 5, -7, 4, 4, 1, -2, 0, 9, 0, 0, 3, 1, 1, 1, -8, 2, 6, 5, -3, 1, 1, 1, 1, 1, 2, 2, 9, -4, 0, 7, 3, -5), 13, 5, 0, [][]int64{{9, 12, 6, 4, 3, 1}}}, {integers(6, 6, 999979, 999991, 999965, 999986, 999951, 999982, 999992, 999968, 999987, 999952, 999982, 999936, 999967, 999986, 999945, 999978, 999923, 999971, 999984, 999936, 999974, 999904, 999963, 999872, 999931, 999970, 999885, 999954, 999839, 999939, 999968, 999872, 999947, 999808, 999926, 999744), 997, 6, 728, nil}, {integers(6, 6, -1000000, -895271, -581084, -57439, 675664, -381776, -992081, -887352, -573165, -49520, 683583, -373857, -984162, -879433, -565246, -41601, 691502, -365938, -976243, -871514, -557327, -33682, 699421, -358019, -968324, -863595, -549408, -25763, 707340, -350100, -960405, -855676, -541489, -17844, 715259, -342181), 991, 2, 0, [][]int64{{3, 987, 1, 0, 0, 0}, {8, 982, 0, 1, 0, 0}, {15, 975, 0, 0, 1, 0}, {978, 12, 0, 0, 0, 1}}},
	}
}

func wantNulls(t *testing.T, what string, got [][]int64, ok bool, want [][]int64) {
	t.Helper()
	if !ok || fmt.Sprint(got) != fmt.Sprint(want) {
		t.Errorf("%s: got %v %v, want %v", what, got, ok, want)
	}
}

func TestRowsOver(t *testing.T) {
	for _, r := range overRows() {
		what := fmt.Sprint(" ", toldWhole(r.w), " over ", r.p)
		rank, ok := impl.RankOver(r.w, r.p)
		wantInteger(t, "RankOver"+what, rank, ok, r.rank)
		nulls, ok := impl.NullOver(r.w, r.p)
		wantNulls(t, "NullOver"+what, nulls, ok, r.nulls)
		det, ok := impl.DetOver(r.w, r.p)
		if r.det < 0 {
			wantNoInteger(t, "DetOver"+what, det, ok)
		} else {
			wantInteger(t, "DetOver"+what, det, ok, r.det)
		}
	}
}

func TestExamplesOver5(t *testing.T) {
	w := integers(2, 2, 1, 2, 2, 4)
	rank, ok := impl.RankOver(w, 5)
	wantInteger(t, "RankOver the rows 1 2 and 2 4", rank, ok, 1)
	nulls, ok := impl.NullOver(w, 5)
	wantNulls(t, "NullOver the rows 1 2 and 2 4", nulls, ok, [][]int64{{3, 1}})
}

func wantNoneOver(t *testing.T, w impl.Whole, p int64) {
	t.Helper()
	what := fmt.Sprint(" ", toldWhole(w), " over ", p)
	rank, ok := impl.RankOver(w, p)
	wantNoInteger(t, "RankOver"+what, rank, ok)
	det, ok := impl.DetOver(w, p)
	wantNoInteger(t, "DetOver"+what, det, ok)
	nulls, ok := impl.NullOver(w, p)
	wantNothing(t, "NullOver"+what, nulls, ok)
	for n := range int64(4) {
		x, ok := impl.SolveOver(w, repeated[int64](0, int(n)), p)
		wantNothing(t, "SolveOver"+what, x, ok)
	}
}

func TestRowsOverFail(t *testing.T) {
	for _, w := range notWholes() {
		wantNoneOver(t, w, 2)
		wantNoneOver(t, w, 997)
		wantNoneOver(t, w, 4)
	}
	for _, p := range notPrimes() {
		wantNoneOver(t, integers(2, 2, 1, 2, 3, 4), p)
		wantNoneOver(t, integers(1, 1, 0), p)
		wantNoneOver(t, integers(1, 1, 1), p)
	}
	for _, w := range []impl.Whole{integers(1, 2, 1, 2), integers(2, 1, 1, 2), allOf(6, 5, 0), allOf(5, 6, 1)} {
		det, ok := impl.DetOver(w, 7)
		wantNoInteger(t, "DetOver "+toldWhole(w), det, ok)
	}
}

func TestSolveOver(t *testing.T) {
	cases := []struct {
		w    impl.Whole
		v    []int64
		p    int64
		want []int64
	}{
		{integers(2, 2, 1, 2, 2, 4), []int64{3, 6}, 5, []int64{3, 0}}, {integers(2, 2, 1, 2, 3, 4), []int64{5, 6}, 7, []int64{3, 1}}, {integers(2, 2, 1, 2, 3, 4), []int64{-5, -6}, 7, []int64{4, 6}}, {integers(1, 1, 3), []int64{1}, 5, []int64{2}}, {integers(1, 1, 3), []int64{0}, 5, []int64{0}}, {integers(1, 1, 0), []int64{0}, 5, []int64{0}}, {integers(1, 1, 0), []int64{10}, 5, []int64{0}}, {integers(1, 1, 5), []int64{-1000000}, 5, []int64{0}}, {integers(1, 1, 1), []int64{1000000}, 997, []int64{9}}, {integers(1, 1, -1), []int64{-1000000}, 997, []int64{9}},
		// more rows than columns and fewer, columns without a pivot
		{integers(1, 4, 0, 2, 3, 1), []int64{5}, 7, []int64{0, 6, 0, 0}}, {integers(4, 1, 0, 2, 3, 1), []int64{0, 4, 6, 2}, 7, []int64{2}}, {integers(2, 4, 1, 2, 3, 4, 2, 4, 6, 9), []int64{1, 3}, 5, []int64{2, 0, 0, 1}}, {integers(4, 2, 1, 2, 2, 4, 3, 6, 4, 9), []int64{1, 2, 3, 5}, 5, []int64{4, 1}}, {integers(3, 5, 0, 0, 2, 1, 4, 0, 0, 1, 1, 1, 0, 0, 3, 2, 5), []int64{7, 8, 4}, 11, []int64{0, 0, 10, 9, 0}}, {integers(2, 6, 0, 1, 0, 2, 0, 3, 0, 0, 0, 1, 1, 1), []int64{1, 1}, 2, []int64{0, 1, 0, 1, 0, 0}}, {integers(6, 3, 2, 4, 6, 1, 2, 3, 1, 1, 1, 0, 1, 2, 5, 5, 5, 9, 8, 7), []int64{2, 1, 1, 0, 5, 9}, 13, []int64{1, 0, 0}},
		// rows that depend on one another, pivots that change places
		{integers(3, 3, 1, 2, 3, 4, 5, 6, 7, 8, 9), []int64{6, 15, 24}, 11, []int64{0, 3, 0}}, {integers(3, 3, 0, 0, 1, 0, 2, 0, 3, 0, 0), []int64{4, 5, 6}, 7, []int64{2, 6, 4}}, {integers(3, 3, 0, 0, 0, 1, 2, 3, 4, 5, 6), []int64{0, 3, 8}, 7, []int64{5, 6, 0}}, {allOf(3, 3, 0), []int64{7, -7, 0}, 7, []int64{0, 0, 0}}, {integers(2, 2, 997, 1, 1994, -1), []int64{3, -3}, 997, []int64{0, 3}}, {allOf(6, 6, 1000000), []int64{3, 3, 3, 3, 3, 3}, 997, []int64{665, 0, 0, 0, 0, 0}}, {integers(6, 6, 2, -1, 0, 3, 5, -7, 4, 4, 1, -2, 0, 9, 0, 0, 3, 1, 1, 1, -8, 2, 6, 5, -3, 1, 1, 1, 1, 1, 2, 2, 9, -4, 0, 7, 3, -5), []int64{1000000, -1000000, 0, 1, -1, 997}, 997, []int64{194, 15, 566, 371, 664, 258}},
	}
	for _, c := range cases {
		got, ok := impl.SolveOver(c.w, c.v, c.p)
		wantIntegers(t, fmt.Sprint("SolveOver ", toldWhole(c.w), c.v, c.p), got, ok, c.want...)
	}
}

func TestSolveOverFails(t *testing.T) {
	check := func(w impl.Whole, p int64, v ...int64) {
		t.Helper()
		got, ok := impl.SolveOver(w, v, p)
		wantNothing(t, fmt.Sprint("SolveOver ", toldWhole(w), v, p), got, ok)
	}
	// what the columns do not lead to
	check(integers(2, 2, 1, 2, 2, 4), 5, 1, 1)
	check(integers(1, 1, 0), 5, 1)
	check(integers(1, 1, 5), 5, 4)
	check(integers(1, 1, 5), 5, -1)
	check(allOf(2, 2, 0), 2, 0, 1)
	check(allOf(2, 2, 0), 2, 1, 0)
	check(integers(3, 2, 1, 0, 0, 1, 1, 1), 3, 1, 1, 1)
	check(integers(3, 3, 1, 2, 3, 4, 5, 6, 7, 8, 9), 11, 6, 15, 25)
	check(integers(3, 3, 0, 2, 4, 0, 1, 3, 0, 5, 5), 5, 1, 2, 3)
	check(allOf(6, 1, 1), 2, 1, 1, 1, 1, 1, 2)
	check(allOf(6, 1, 1), 2, 2, 1, 1, 1, 1, 1)
	// lists that do not have as many numbers as rows, or have greater ones
	good := integers(2, 3, 1, 2, 3, 4, 5, 7)
	check(good, 7)
	check(good, 7, 1)
	check(good, 7, 1, 2, 3)
	check(integers(3, 2, 1, 2, 3, 4, 5, 7), 7, 0, 0)
	check(allOf(6, 6, 0), 7, 0, 0, 0, 0, 0, 0, 0)
	for _, n := range []int64{1000001, -1000001, 1 << 32, math.MaxInt64, math.MinInt64} {
		check(good, 7, n, 1)
		check(good, 7, 1, n)
	}
}
