package tests

import (
	"fmt"
	"math"
	"testing"

	"loop.example/g01327/impl"
)

func TestExampleOfChains(t *testing.T) {
	c := chain([]float32{2, 2}, 1)
	values, ok := impl.ValuesOfChain(c)
	wantBool(t, "ValuesOfChain", ok && len(values) == 2, true)
	for k, want := range []float64{1, 3} {
		wantNear(t, "the values 1 and 3", []float64{want}, values[k:k+1], 1e-6)
	}
	below, ok := impl.CountBelow(c, 2)
	wantBool(t, "one of them is less than 2", ok && below == 1, true)
}

func TestValidChain(t *testing.T) {
	valid := []impl.Chain{
		chain([]float32{2, 2}, 1), chain([]float32{0}), chain([]float32{minusZero}, []float32{}...), chain([]float32{greatest, -greatest, number(1)}, -greatest, minusZero),
		chain(repeated[float32](1, 12), repeated[float32](0, 11)...), {Mids: []float32{1}, Sides: []float32{}},
	}
	for _, c := range valid {
		wantBool(t, "ValidChain "+toldChain(c), impl.ValidChain(c), true)
	}
	for _, c := range notChains() {
		wantBool(t, "ValidChain "+toldChain(c), impl.ValidChain(c), false)
	}
}

func TestSameChain(t *testing.T) {
	nothing := number(0x7fc00000)
	list := append(notChains()[2:10], chain([]float32{2, 2}, 1), chain([]float32{2, 2}, 2), chain([]float32{2, 3}, 1), chain([]float32{0, 2}, 0), chain([]float32{minusZero, 2}, 0), chain([]float32{0, 2}, minusZero),
		chain([]float32{nothing}), chain([]float32{infinite}), chain([]float32{-infinite}), chain([]float32{1, 2}, nothing))
	for i, a := range list {
		for k, b := range list {
			wantBool(t, fmt.Sprintf("SameChain %s, %s", toldChain(a), toldChain(b)), impl.SameChain(a, b), i == k)
		}
	}
	wantBool(t, "nil and empty", impl.SameChain(impl.Chain{}, impl.Chain{Mids: []float32{}, Sides: []float32{}}), true)
	wantBool(t, "any not-a-numbers", impl.SameChain(chain([]float32{nothing}, nothing), chain([]float32{number(0xff800001)}, number(0x7f800001))), true)
}

func TestChainMatrix(t *testing.T) {
	cases := []struct {
		c    impl.Chain
		want impl.Matrix
	}{
		{chain([]float32{2, 2}, 1), matrix(2, 2, 2, 1, 1, 2)},
		{chain([]float32{-5}), matrix(1, 1, -5)},
		{chain([]float32{minusZero, greatest, 3}, minusZero, -4), matrix(3, 3, minusZero, minusZero, 0, minusZero, greatest, -4, 0, -4, 3)},
		{chain([]float32{1, 2, 3, 4}, 5, 6, 7), matrix(4, 4, 1, 5, 0, 0, 5, 2, 6, 0, 0, 6, 3, 7, 0, 0, 7, 4)},
		{chain(repeated[float32](7, 12), repeated[float32](0, 11)...), middle(repeated[float32](7, 12)...)},
	}
	for _, c := range cases {
		got, ok := impl.ChainMatrix(c.c)
		wantMatrix(t, "ChainMatrix "+toldChain(c.c), got, ok, c.want)
	}
	for _, c := range notChains() {
		got, ok := impl.ChainMatrix(c)
		wantNoMatrix(t, "ChainMatrix "+toldChain(c), got, ok)
	}
}

func TestCountBelow(t *testing.T) {
	least := number(1)
	cases := []struct {
		c    impl.Chain
		x    float32
		want int64
	}{
		{chain([]float32{2, 2}, 1), 0.99, 0}, {chain([]float32{2, 2}, 1), 1.01, 1}, {chain([]float32{2, 2}, 1), 2.99, 1}, {chain([]float32{2, 2}, 1), 3.01, 2}, {chain([]float32{2, 2}, -1), 2, 1},
		{chain([]float32{2, 2}, 1), -greatest, 0}, {chain([]float32{2, 2}, 1), greatest, 2},
		// chains of one number; a q that is 0 is counted, whatever its sign
		{chain([]float32{5}), 4, 0}, {chain([]float32{5}), 5, 1}, {chain([]float32{5}), 6, 1}, {chain([]float32{minusZero}), 0, 1}, {chain([]float32{0}), 0, 1}, {chain([]float32{0}), minusZero, 1},
		{chain([]float32{least}), 0, 0}, {chain([]float32{-least}), 0, 1},
		// chains that fall apart
		{chain([]float32{3, 1, 2}, 0, 0), 0, 0}, {chain([]float32{3, 1, 2}, 0, minusZero), 1.5, 1}, {chain([]float32{3, 1, 2}, 0, 0), 2, 2}, {chain([]float32{3, 1, 2}, 0, 0), 2.5, 2}, {chain([]float32{3, 1, 2}, 0, 0), 3, 3},
		{chain(repeated[float32](4, 12), repeated[float32](0, 11)...), 4, 12}, {chain(repeated[float32](4, 12), repeated[float32](0, 11)...), 3.999, 0}, {chain(repeated[float32](4, 12), repeated[float32](0, 11)...), 4.001, 12},
		// the first q is 0, the next one is great; and a q that is 0 later on
		{chain([]float32{2, 2, 2}, 1, 1), 2, 2}, {chain([]float32{1, 1}, 1), 0, 1}, {chain([]float32{1, 1, 0}, 1, 1), 0, 1},
		// how small the number is that a 0 becomes is seen where the Side is small, too
		{chain([]float32{0, -1}, 1.2e-19), 0, 1}, {chain([]float32{0, -1}, 1e-19), 0, 2}, {chain([]float32{0, -1}, number(0x20000000)), 0, 2}, {chain([]float32{0, -1}, number(0x1fffffff)), 0, 2}, {chain([]float32{0, -1}, number(0x20000001)), 0, 1},
		// numbers on the way that are infinite
		{chain([]float32{greatest, 0}, 1), -greatest, 0}, {chain([]float32{-greatest, 1}, 1), greatest, 2}, {chain([]float32{1, 1}, 1e30), 0, 1}, {chain([]float32{-1, 1}, 1e30), 0, 1}, {chain([]float32{1, 1, 1}, 1e30, 1), 0, 1}, {chain([]float32{1, 1, -1}, 1e30, 1), 0, 2},
		// the square of the Side is told first
		{chain([]float32{1e-30, 1}, 1e-25), 0, 0},
	}
	for _, c := range cases {
		got, ok := impl.CountBelow(c.c, c.x)
		if !ok || got != c.want {
			t.Errorf("CountBelow %s, %v: got %d %v, want %d", toldChain(c.c), c.x, got, ok, c.want)
		}
	}
}

func TestCountBelowFails(t *testing.T) {
	check := func(c impl.Chain, x float32) {
		t.Helper()
		got, ok := impl.CountBelow(c, x)
		if ok || got != 0 {
			t.Errorf("CountBelow %s, %v: got %d %v, want nothing", toldChain(c), x, got, ok)
		}
	}
	for _, c := range notChains() {
		check(c, 1)
	}
	for _, x := range notFinite() {
		check(chain([]float32{2, 2}, 1), x)
		check(chain([]float32{2}), x)
	}
	// a not-a-number among all q, at the end and before it
	check(chain([]float32{greatest, 0}, 1e20), -greatest)
	check(chain([]float32{0, 0, 0}, 1e20, 1e20), 0)
	check(chain([]float32{-1, -1, -1, -1}, 1e20, 1e20, 0), 0)
}

func TestSpanOfChain(t *testing.T) {
	cases := []struct {
		c         impl.Chain
		low, high float32
	}{
		{chain([]float32{2, 2}, 1), 1, 3}, {chain([]float32{2, 2}, -1), 1, 3}, {chain([]float32{5}), 5, 5}, {chain([]float32{1, 2, 3}, 4, -8), -10, 14}, {chain([]float32{9, 2, -3}, 1, 2), -5, 10},
		{chain([]float32{1, -2, 3}, 0, 0), -2, 3}, {chain([]float32{0, 0, 0, 0}, -1, 2, -4), -6, 6}, {chain([]float32{greatest}), greatest, greatest}, {chain([]float32{-greatest, greatest}, 0), -greatest, greatest},
		{chain([]float32{1, 1}, number(0x33000000)), 1, 1}, {chain([]float32{1, 1}, number(0x33000001)), number(0x3f7fffff), 1},
		// the first one of equal ones: what is +0 less +0, and -0 plus +0, is +0
		{chain([]float32{0}), 0, 0}, {chain([]float32{minusZero}), minusZero, 0}, {chain([]float32{0, minusZero}, 0), 0, 0}, {chain([]float32{minusZero, 0}, minusZero), minusZero, 0}, {chain([]float32{1, minusZero, 0}, 0, 0), minusZero, 1},
		{chain([]float32{1, 0, minusZero}, 0, 0), 0, 1}, {chain([]float32{-1, minusZero, 0}, 0, 0), -1, 0},
		{chain(repeated[float32](1, 12), repeated[float32](-1, 11)...), -1, 3},
	}
	for _, c := range cases {
		low, high, ok := impl.SpanOfChain(c.c)
		wantResult(t, "low of SpanOfChain "+toldChain(c.c), low, ok, c.low)
		wantResult(t, "high of SpanOfChain "+toldChain(c.c), high, ok, c.high)
	}
	fails := append(notChains(), chain([]float32{greatest, greatest}, greatest), chain([]float32{-greatest, 0}, greatest), chain([]float32{0, 0, 0}, greatest, -greatest), chain([]float32{0, greatest}, 1e38), chain([]float32{-greatest, 0, 0}, 1e38, 0))
	for _, c := range fails {
		low, high, ok := impl.SpanOfChain(c)
		wantNoResult(t, "low of SpanOfChain "+toldChain(c), low, ok)
		wantNoResult(t, "high of SpanOfChain "+toldChain(c), high, ok)
	}
}

// apart is a chain that falls apart.
func apart(mids ...float32) impl.Chain {
	return chain(mids, repeated[float32](0, len(mids)-1)...)
}

func TestValuesOfChain(t *testing.T) {
	cases := []struct {
		c    impl.Chain
		want []int64
	}{
		{chain([]float32{2, 2}, 1), []int64{0x3f800000, 0x403fffff}},
		{chain([]float32{5}), []int64{0x40a00000}},
		{chain([]float32{0}), []int64{0}},
		{chain([]float32{minusZero}), []int64{0x80000000}},
		{chain([]float32{-7.5}), []int64{0xc0f00000}},
		{apart(3, 1, 2), []int64{0x3f800000, 0x3fffffff, 0x403fffff}},
		{apart(4, 4, 4), []int64{0x40800000, 0x40800000, 0x40800000}},
		{chain([]float32{1, 1, 1}, 1, 0), []int64{0x00000000, 0x3f7fffff, 0x3fffffff}},
		{chain([]float32{0, 0}, 1e20), []int64{0xe0ad78ec, 0x60ad78ec}},
		{chain([]float32{0, 0}, number(1)), []int64{0x80000001, 0x80000001}},
		{chain(repeated[float32](2, 12), repeated[float32](-1, 11)...), []int64{0x3d6e0b6f, 0x3e6a9604, 0x3f00c332, 0x3f5d269d, 0x3fa5389d, 0x3fe12482, 0x400f6dbe, 0x402d63b1, 0x4048b658, 0x405fcf33, 0x4071569f, 0x407c47d2}},
	}
	for _, c := range cases {
		got, ok := impl.ValuesOfChain(c.c)
		wantList(t, "ValuesOfChain "+toldChain(c.c), got, ok, numbersOf(c.want)...)
		for k, bits := range c.want {
			got, ok := impl.ValueOfChain(c.c, int64(k))
			wantResult(t, fmt.Sprintf("ValueOfChain %s, %d", toldChain(c.c), k), got, ok, number(bits))
		}
	}
}

func TestValuesOfChainFail(t *testing.T) {
	fails := append(notChains(), chain([]float32{greatest}), chain([]float32{-greatest, -greatest}, 0), // half of their sum is not finite
		chain([]float32{greatest, greatest}, greatest), chain([]float32{0, 0, 0}, 1e20, 1e20))
	for _, c := range fails {
		values, ok := impl.ValuesOfChain(c)
		wantNothing(t, "ValuesOfChain "+toldChain(c), values, ok)
		for _, k := range []int64{-1, 0, 1, 2, 12} {
			value, ok := impl.ValueOfChain(c, k)
			wantNoResult(t, fmt.Sprintf("ValueOfChain %s, %d", toldChain(c), k), value, ok)
		}
	}
	for _, c := range []impl.Chain{chain([]float32{2, 2}, 1), apart(repeated[float32](2, 12)...), apart(1)} {
		for _, k := range []int64{-1, int64(len(c.Mids)), int64(len(c.Mids)) + 1, math.MinInt64, math.MaxInt64, 1 << 32} {
			value, ok := impl.ValueOfChain(c, k)
			wantNoResult(t, fmt.Sprintf("ValueOfChain %s, %d", toldChain(c), k), value, ok)
		}
	}
}

func TestSolveChain(t *testing.T) {
	cases := []struct {
		c       impl.Chain
		v, want []float32
	}{
		{chain([]float32{4}), []float32{2}, []float32{0.5}},
		{chain([]float32{-4}), []float32{0}, []float32{minusZero}},
		{chain([]float32{2, 2.5, 1}, 1, 2), []float32{3, 5.5, 3}, []float32{1, 1, 1}},
		{chain([]float32{1, 3}, -1), []float32{1, -3}, []float32{0, -1}},
		{apart(2, 4, 8), []float32{1, 1, 1}, []float32{0.5, 0.25, 0.125}},
		// numbers on the way that are not finite lead to zeros
		{chain([]float32{1, 1}, 1e30), []float32{0, 5}, []float32{0, minusZero}},
		{apart(repeated[float32](2, 12)...), repeated[float32](3, 12), repeated[float32](1.5, 12)},
	}
	for _, c := range cases {
		got, ok := impl.SolveChain(c.c, c.v)
		wantList(t, "SolveChain "+toldChain(c.c), got, ok, c.want...)
	}
	c := chain([]float32{2, 2}, 1)
	solved, ok := impl.SolveChain(c, []float32{3, 3})
	wantBool(t, "SolveChain", ok, true)
	wantNear(t, "SolveChain", []float64{1, 1}, solved, 1e-6)
}

func TestSolveChainFails(t *testing.T) {
	check := func(c impl.Chain, v []float32) {
		t.Helper()
		got, ok := impl.SolveChain(c, v)
		wantNothing(t, fmt.Sprintf("SolveChain %s, %08x", toldChain(c), toldList(v)), got, ok)
	}
	for _, c := range notChains() {
		check(c, repeated[float32](1, len(c.Mids)))
		check(c, []float32{1})
		check(c, []float32{1, 2})
	}
	for _, v := range notPairs() {
		check(chain([]float32{2, 2}, 1), v)
	}
	check(chain(repeated[float32](2, 12), repeated[float32](1, 11)...), repeated[float32](1, 11))
	check(chain(repeated[float32](2, 12), repeated[float32](1, 11)...), repeated[float32](1, 13))
	// a d that is 0, and results that are not finite
	check(apart(0), []float32{1})
	check(apart(0), []float32{0})
	check(apart(minusZero), []float32{1})
	check(apart(1, 0), []float32{1, 1})
	check(chain([]float32{1, 0, 1}, 0, 2), []float32{5, 2, 1})
	check(apart(0, 1), []float32{1, 1})
	check(chain([]float32{0, 1}, 1), []float32{1, 1})
	check(chain([]float32{1, 1}, 1), []float32{1, 1})
	check(apart(number(1)), []float32{1})
	check(apart(0.5), []float32{greatest})
	check(chain([]float32{1e-20, 1}, 1e20), []float32{1, 1})
}
