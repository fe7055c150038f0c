package tests

import (
	"fmt"
	"math"
	"testing"

	"loop.example/g01327/impl"
)

// goodThirds are valid thirds of all kinds.
func goodThirds() []impl.Thirds {
	return []impl.Thirds{
		evenThirds(1, 0, 2, 0), evenThirds(2, 1, 2, 1), evenThirds(32, 1, 4, 1), evenThirds(3, 0, 0, 0), thirds([]float32{minusZero}, []float32{1}, []float32{minusZero}), thirds([]float32{minusZero, 1}, []float32{1, 2}, []float32{1, 0}),
		thirds([]float32{0, 1}, []float32{1, 2}, []float32{1, minusZero}), thirds([]float32{0, greatest}, []float32{number(1), minusZero}, []float32{-greatest, 0}),
	}
}

func TestValidThirds(t *testing.T) {
	for _, good := range goodThirds() {
		wantBool(t, "ValidThirds "+toldThirds(good), impl.ValidThirds(good), true)
	}
	for _, bad := range notThirds() {
		wantBool(t, "ValidThirds "+toldThirds(bad), impl.ValidThirds(bad), false)
	}
}

func TestThirdsTimes(t *testing.T) {
	cases := []struct {
		t       impl.Thirds
		v, want []float32
	}{
		{evenThirds(2, 1, 2, 1), []float32{1, 2}, []float32{4, 5}}, {evenThirds(1, 0, 5, 0), []float32{2}, []float32{10}}, {thirds([]float32{0, 1, 2}, []float32{3, 4, 5}, []float32{6, 7, 0}), []float32{1, 10, 100}, []float32{63, 741, 520}},
		// sums begin with +0, and go from Lower to Upper
		{evenThirds(1, 0, -1, 0), []float32{0}, []float32{0}}, {evenThirds(3, 0, 1, 0), []float32{minusZero, minusZero, minusZero}, []float32{0, 0, 0}}, {evenThirds(3, 1, 1, 1), []float32{1 << 24, 1, 1}, []float32{1 << 24, 1 << 24, 2}}, {evenThirds(3, 1, 1, 1), []float32{1, 1, 1 << 24}, []float32{2, 1<<24 + 2, 1 << 24}},
		{thirds([]float32{minusZero, 1}, []float32{2, 2}, []float32{1, minusZero}), []float32{1, 2}, []float32{4, 5}}, {thirds([]float32{0, 1}, []float32{number(1), 0}, []float32{0, 0}), []float32{0.5, 3}, []float32{0, 0.5}},
		{evenThirds(32, 1, 4, 1), repeated[float32](1, 32), append(append([]float32{5}, repeated[float32](6, 30)...), 5)},
	}
	for _, c := range cases {
		got, ok := impl.ThirdsTimes(c.t, c.v)
		wantList(t, "ThirdsTimes "+toldThirds(c.t), got, ok, c.want...)
	}
}

// thirdsCalls are the functions that take thirds and a list of as many numbers as they have rows.
func thirdsCalls() map[string]func(t impl.Thirds, v []float32) ([]float32, bool) {
	return map[string]func(t impl.Thirds, v []float32) ([]float32, bool){
		"ThirdsTimes": impl.ThirdsTimes,
		"ThirdsSolve": impl.ThirdsSolve,
		"ThirdsRing": func(t impl.Thirds, v []float32) ([]float32, bool) {
			return impl.ThirdsRing(t, 1, 0.5, v)
		},
		"ThirdsShared": func(t impl.Thirds, v []float32) ([]float32, bool) {
			many, ok := impl.ThirdsShared([]impl.Thirds{t}, v, 2)
			if len(many) == 0 {
				return nil, ok
			}
			return many[0], ok
		},
	}
}

func TestThirdsFail(t *testing.T) {
	for name, call := range thirdsCalls() {
		for _, bad := range notThirds() {
			for _, v := range [][]float32{nil, {1}, {1, 2}, repeated[float32](1, len(bad.Middle))} {
				got, ok := call(bad, v)
				wantNothing(t, name+" "+toldThirds(bad), got, ok)
			}
		}
		for _, v := range append(notVectors(), []float32{1, 2}, []float32{1, 2, 3, 4}, repeated[float32](1, 32), []float32{1, 2, infinite}, []float32{number(0x7fc00000), 1, 1}) {
			got, ok := call(evenThirds(3, 1, 4, 1), v)
			wantNothing(t, fmt.Sprint(name, v), got, ok)
		}
		got, ok := call(evenThirds(32, 1, 4, 1), repeated[float32](1, 32))
		wantBool(t, name+" of 32 rows", ok && len(got) == 32, true)
	}
	for _, bad := range []impl.Thirds{evenThirds(1, 0, 2, 0), evenThirds(2, 1, 1, 0), evenThirds(2, 0, 1, 1)} { // a product, or a sum, is not finite
		got, ok := impl.ThirdsTimes(bad, repeated(greatest, len(bad.Middle)))
		wantNothing(t, "ThirdsTimes "+toldThirds(bad), got, ok)
	}
}

func TestThirdsSolve(t *testing.T) {
	cases := []struct {
		t       impl.Thirds
		b, want []float32
	}{
		{evenThirds(2, 1, 2, 1), []float32{3, 3}, []float32{1, 1}}, {evenThirds(1, 0, 2, 0), []float32{6}, []float32{3}}, {evenThirds(1, 0, -2, 0), []float32{0}, []float32{minusZero}}, {evenThirds(3, 0, 2, 0), []float32{2, 4, 6}, []float32{1, 2, 3}},
		{thirds([]float32{0, 1, 2}, []float32{4, 5, 6}, []float32{3, 2, 0}), []float32{7, 8, 9}, numbersOf([]int64{0x3f88ee24, 0x3f682fa1, 0x3f994d65})}, {thirds([]float32{minusZero, 0, 0}, []float32{1, 2, -1}, []float32{0, 0, minusZero}), []float32{minusZero, minusZero, 0}, []float32{minusZero, 0, minusZero}},
		// a middle of 0 that does not stay so, and one that is not finite on the way
		{thirds([]float32{0, 1}, []float32{1, 0}, []float32{1, 0}), []float32{3, 1}, []float32{1, 2}}, {thirds([]float32{0, 1e20}, []float32{1, 1}, []float32{1e20, 0}), []float32{1, 5}, []float32{1, 0}},
		{evenThirds(32, 1, 4, 1), append(append([]float32{5}, repeated[float32](6, 30)...), 5), append(numbersOf([]int64{0x3f800000, 0x3f800000, 0x3f7fffff, 0x3f800000, 0x3f800001}), repeated[float32](1, 27)...)},
		{evenThirds(1, 0, number(1), 0), []float32{number(3)}, []float32{3}}, {evenThirds(1, 0, greatest, 0), []float32{greatest}, []float32{1}},
	}
	for _, c := range cases {
		got, ok := impl.ThirdsSolve(c.t, c.b)
		wantList(t, "ThirdsSolve "+toldThirds(c.t), got, ok, c.want...)
	}
}

// noSolutions are thirds of 3 rows, and b, for which there is no x.
func noSolutions() map[string]impl.Thirds {
	return map[string]impl.Thirds{
		"the first middle is 0":       thirds([]float32{0, 1, 1}, []float32{0, 4, 4}, []float32{1, 1, 0}),
		"the first middle is -0":      thirds([]float32{0, 1, 1}, []float32{minusZero, 4, 4}, []float32{1, 1, 0}),
		"a middle is 0":               thirds([]float32{0, 0, 1}, []float32{4, 0, 4}, []float32{1, 1, 0}),
		"a middle is -0, without b":   thirds([]float32{0, 0, 0}, []float32{4, minusZero, 4}, []float32{0, 0, 0}),
		"a middle becomes 0":          thirds([]float32{0, 2, 1}, []float32{4, 0.5, 4}, []float32{1, 1, 0}),
		"the last middle is 0":        thirds([]float32{0, 1, 1}, []float32{4, 4, 0}, []float32{1, 0, 0}),
		"the last middle is -0":       thirds([]float32{0, 0, 0}, []float32{4, 4, minusZero}, []float32{0, 0, 0}),
		"the last middle becomes 0":   thirds([]float32{0, 0, 2}, []float32{4, 4, 0.5}, []float32{1, 1, 0}),
		"a middle that is not finite": thirds([]float32{0, 1, greatest}, []float32{1, 1e-30, 1}, []float32{0, greatest, 0}),
		"a quotient is not finite":    thirds([]float32{0, 1, 1}, []float32{number(1), 4, 4}, []float32{1, 1, 0}),
		"x is not finite":             thirds([]float32{0, 0, 0}, []float32{1, 1, number(1)}, []float32{0, 0, 0}),
		"a product is not finite":     thirds([]float32{0, 0, 0}, []float32{1, 1, 1e-10}, []float32{0, greatest, 0}),
	}
}

func TestThirdsSolveFails(t *testing.T) {
	for name, bad := range noSolutions() {
		got, ok := impl.ThirdsSolve(bad, []float32{1, 1, 1})
		wantNothing(t, name, got, ok)
		if bad.Middle[0]*bad.Middle[1]*bad.Middle[2] == 0 {
			got, ok = impl.ThirdsSolve(bad, []float32{0, 0, 0})
			wantNothing(t, name+", with nothing to solve", got, ok)
		}
	}
	for _, middle := range []float32{0, minusZero} {
		got, ok := impl.ThirdsSolve(evenThirds(1, 0, middle, 0), []float32{1})
		wantNothing(t, "one row of nothing", got, ok)
	}
	got, ok := impl.ThirdsSolve(evenThirds(1, 0, 0.5, 0), []float32{greatest})
	wantNothing(t, "one row that is too great", got, ok)
}

func TestThirdsRing(t *testing.T) {
	plain := evenThirds(3, 0, 2, 0)
	cases := []struct {
		t             impl.Thirds
		corner, other float32
		b, want       []float32
	}{
		{plain, 1, 1, []float32{3, 2, 3}, numbersOf([]int64{0x3f7fffff, 0x3f800000, 0x3f800001})},
		// corners of 0, both or one
		{plain, 0, 0, []float32{3, 2, 3}, []float32{1.5, 1, 1.5}}, {plain, minusZero, 0, []float32{3, 2, 3}, []float32{1.5, 1, 1.5}}, {plain, 0, minusZero, []float32{3, 2, 3}, []float32{1.5, 1, 1.5}}, {plain, 1, 0, []float32{3, 2, 3}, []float32{0.75, 1, 1.5}}, {plain, 0, 1, []float32{3, 2, 3}, []float32{1.5, 1, 0.75}},
		{thirds([]float32{0, 1, 2, -1}, []float32{4, 5, 6, 7}, []float32{3, -2, 1, 0}), 2, -3, []float32{1, 2, 3, 4}, numbersOf([]int64{0xbecbb5a7, 0x3f12f558, 0x3e71dfc9, 0x3ede8b47})}, {thirds([]float32{0, 1, 2, -1}, []float32{4, 5, 6, 7}, []float32{3, -2, 1, 0}), 0, 0, []float32{1, 2, 3, 4}, numbersOf([]int64{0xbe0e1efa, 0x3f04b4fe, 0x3e68026e, 0x3f1a9260})},
		{thirds([]float32{0, 1, 1}, []float32{-2, 3, 4}, []float32{1, 1, 0}), 5, 7, []float32{3, 2, 3}, numbersOf([]int64{0x3d70f100, 0x3ef0f0f1, 0x3f078788})},
		// numbers that are great
		{plain, 1e30, 1e-30, []float32{3, 2, 3}, numbersOf([]int64{0xf149f2ca, 0x3f800000, 0x40000000})}, {thirds([]float32{0, 0, 0}, []float32{1.7e38, 1, 1}, []float32{0, 0, 0}), 1, 1, []float32{1, 2, -1}, numbersOf([]int64{0x00801b37, 0x40000000, 0xbf800000})},
		// what q is divided by is not finite, so that q is 0
		{thirds([]float32{0, -2, 2}, []float32{-1, 1, 1}, []float32{0, 0, 0}), greatest, 0, []float32{0, 1, 2}, []float32{0, 1, 0}},
		{evenThirds(32, 1, 4, 1), 1, 1, repeated[float32](6, 32), numbersOf([]int64{0x3f800000, 0x3f7fffff, 0x3f800001, 0x3f7ffffd, 0x3f800000, 0x3f800000, 0x3f7fffff, 0x3f800001, 0x3f7fffff, 0x3f800000, 0x3f7fffff, 0x3f7fffff, 0x3f800000, 0x3f800000, 0x3f800000, 0x3f800000, 0x3f800000, 0x3f800000, 0x3f800000, 0x3f800000, 0x3f800000, 0x3f800000, 0x3f7fffff, 0x3f800000, 0x3f800000, 0x3f800000, 0x3f800000, 0x3f800001, 0x3f800000, 0x3f800000, 0x3f800000, 0x3f800000})},
	}
	for _, c := range cases {
		got, ok := impl.ThirdsRing(c.t, c.corner, c.other, c.b)
		wantList(t, fmt.Sprint("ThirdsRing ", toldThirds(c.t), c.corner, c.other), got, ok, c.want...)
	}
}

func TestThirdsRingFails(t *testing.T) {
	check := func(a impl.Thirds, corner, other float32, b ...float32) {
		t.Helper()
		got, ok := impl.ThirdsRing(a, corner, other, b)
		wantNothing(t, fmt.Sprint("ThirdsRing ", toldThirds(a), corner, other, b), got, ok)
	}
	// fewer than 3 rows
	check(evenThirds(1, 0, 2, 0), 0, 0, 1)
	check(evenThirds(2, 1, 4, 1), 0, 0, 1, 2)
	check(evenThirds(2, 1, 4, 1), 1, 1, 1, 2)
	plain := evenThirds(3, 0, 2, 0)
	for _, x := range notFinite() {
		check(plain, x, 1, 3, 2, 3)
		check(plain, 1, x, 3, 2, 3)
		check(plain, x, x, 3, 2, 3)
	}
	// the first number of Middle is 0, with corners or without them
	for _, first := range []float32{0, minusZero} {
		check(thirds([]float32{0, 1, 1}, []float32{first, 4, 4}, []float32{1, 1, 0}), 1, 1, 1, 2, 3)
		check(thirds([]float32{0, 1, 1}, []float32{first, 4, 4}, []float32{1, 1, 0}), 0, 0, 1, 2, 3)
	}
	// another middle is 0, or becomes 0 by the corners
	check(thirds([]float32{0, 0, 0}, []float32{1, 0, 1}, []float32{0, 0, 0}), 2, 3, 1, 2, 3)
	check(thirds([]float32{0, 0, 0}, []float32{1, 1, -1}, []float32{0, 0, 0}), 1, 1, 1, 2, -1)
	check(thirds([]float32{0, 0, 0}, []float32{1, 1, 0}, []float32{0, 0, 0}), 1, 0, 1, 2, 3)
	// nothing solves it
	check(evenThirds(3, 0, 1, 0), 1, 1, 1, 2, 1)
	check(evenThirds(3, 0, 1, 0), 1, 1, 1, 2, -1)
	check(evenThirds(3, 0, 1, 0), 1, 1, 0, 0, 0)
	// the first or the last middle becomes one that is not finite
	check(thirds([]float32{0, 0, 0}, []float32{1.8e38, 1, 1}, []float32{0, 0, 0}), 1, 1, 1, 2, -1)
	check(thirds([]float32{0, 0, 0}, []float32{-greatest, 1, 1}, []float32{0, 0, 0}), 0, 0, 1, 2, -1)
	check(plain, 1e30, 1e30, 3, 2, 3)
	check(thirds([]float32{0, 0, 0}, []float32{number(1), 1, 1}, []float32{0, 0, 0}), 1, 1, 0, 2, 0)
	check(thirds([]float32{0, 0, 0}, []float32{1, 1, greatest}, []float32{0, 0, 0}), 1e35, 1e3, 1, 2, 3)
	// the result is not finite
	check(evenThirds(3, 0, 0.5, 0), 0, 0, greatest, 1, 1)
	check(evenThirds(3, 0, 0.5, 0), 0, 0, 1, greatest, 1)
	check(evenThirds(3, 0, 2, 0), greatest, 0, 1, 1, 8)
}

func TestThirdsShared(t *testing.T) {
	b := []float32{2, 4, 6}
	var many []impl.Thirds
	var want [][]float32
	for i := range impl.MaxSheets + 1 {
		for workers := int64(1); workers <= impl.MaxCrew; workers++ { // fewer thirds than workers, as many, and more
			got, ok := impl.ThirdsShared(many, b, workers)
			wantBool(t, fmt.Sprint("ThirdsShared ", i, " by ", workers, ": ", toldLists(got)), ok && len(got) == i && toldLists(got) == toldLists(want), true)
		}
		next := evenThirds(3, float32(i), 9, 1)
		x, ok := impl.ThirdsSolve(next, b)
		wantBool(t, "ThirdsSolve", ok, true)
		many, want = append(many, next), append(want, x)
	}
	got, ok := impl.ThirdsShared([]impl.Thirds{evenThirds(3, 0, 2, 0)}, b, 2)
	wantBool(t, "ThirdsShared "+toldLists(got), ok && toldLists(got) == toldLists([][]float32{{1, 2, 3}}), true)
	for _, workers := range []int64{1, 8} {
		got, ok = impl.ThirdsShared(many, b, workers)
		wantNothing(t, "ThirdsShared of too many", got, ok)
	}
}

func TestThirdsSharedOfNone(t *testing.T) {
	lists := append(notVectors(), []float32{1}, []float32{1, 2}, repeated[float32](1, 33), repeated(infinite, 300))
	for _, none := range [][]impl.Thirds{nil, {}} {
		for _, b := range lists {
			for workers := int64(1); workers <= impl.MaxCrew; workers++ {
				got, ok := impl.ThirdsShared(none, b, workers)
				wantBool(t, "ThirdsShared of none", ok && len(got) == 0, true)
			}
			for _, workers := range notCrews() {
				got, ok := impl.ThirdsShared(none, b, workers)
				wantNothing(t, "ThirdsShared of none by no crew", got, ok)
			}
		}
	}
}

// notCrews are no numbers of workers.
func notCrews() []int64 {
	return []int64{0, -1, 9, math.MaxInt64, math.MinInt64, 1 << 32, 1<<32 + 1}
}

func TestThirdsSharedFails(t *testing.T) {
	b := []float32{1, 1, 1}
	good := evenThirds(3, 1, 4, 1)
	bad := []impl.Thirds{{}, evenThirds(2, 1, 4, 1), evenThirds(4, 1, 4, 1), thirds([]float32{1, 1, 1}, []float32{4, 4, 4}, []float32{1, 1, 0})}
	for _, one := range noSolutions() {
		bad = append(bad, one)
	}
	for _, one := range bad { // one of many, at each place
		for n := 1; n <= impl.MaxSheets; n++ {
			for i := range n {
				many := repeated(good, n)
				many[i] = one
				for _, workers := range []int64{1, 3, 8} {
					got, ok := impl.ThirdsShared(many, b, workers)
					wantNothing(t, "ThirdsShared, one of which cannot be solved", got, ok)
				}
			}
		}
	}
	for _, workers := range notCrews() {
		got, ok := impl.ThirdsShared([]impl.Thirds{good}, b, workers)
		wantNothing(t, fmt.Sprint("ThirdsShared by ", workers), got, ok)
	}
}
