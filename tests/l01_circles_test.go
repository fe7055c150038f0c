package tests

import (
	"math"
	"testing"

	"loop.example/g01327/impl"
)

func TestSineTurns(t *testing.T) {
	for _, row := range powerRows {
		wantNumber(t, "SineTurns", impl.SineTurns(number(row.x)), row.sine)
	}
	wantNumber(t, "the sine of -0", impl.SineTurns(number(0x80000000)), 0x80000000)
	wantNumber(t, "the sine of -1", impl.SineTurns(-1), 0)
	wantNumber(t, "the sine of 1/2", impl.SineTurns(0.5), 0x80000000)
	wantNumber(t, "the sine of -2 to the power of 52", impl.SineTurns(-0x1p52), 0)
	for _, bits := range spread(5000) {
		x := number(bits)
		if !impl.IsFinite(x) || math.Abs(float64(x)) > 1e6 {
			continue
		}
		want := math.Sin(2 * math.Pi * math.Remainder(float64(x), 1))
		if got := float64(impl.SineTurns(x)); math.Abs(got-want) > 1e-7 {
			t.Errorf("the sine of %v: got %v, nearly %v", x, got, want)
		}
	}
}

func TestPhasorOf(t *testing.T) {
	for _, row := range phasorRows {
		turns := math.Float64frombits(row.turns)
		wantComplex(t, "PhasorOf", impl.PhasorOf(turns), [2]int64{row.real, row.imag})
	}
	for n := -400; n <= 400; n++ {
		turns := float64(n) / 97
		got := impl.PhasorOf(turns)
		s, c := math.Sincos(2 * math.Pi * turns)
		if math.Abs(float64(real(got))-c) > 1e-6 || math.Abs(float64(imag(got))-s) > 1e-6 {
			t.Errorf("the phasor of %v: got %v", turns, got)
		}
	}
}

func TestAngles(t *testing.T) {
	for _, row := range angleRows {
		y, x := number(row.y), number(row.x)
		wantNumber(t, "AngleTurns", impl.AngleTurns(y, x), row.angle)
		wantNumber(t, "AngleOf", impl.AngleOf(complex(x, y)), row.angle)
	}
	for n := -49; n <= 49; n++ {
		turns := float64(n) / 100
		if got := impl.AngleOf(impl.PhasorOf(turns)); math.Abs(float64(got)-turns) > 1e-7 {
			t.Errorf("the angle at %v turns: got %v", turns, got)
		}
	}
	for _, a := range specials() {
		for _, b := range specials() {
			y, x := number(a), number(b)
			got := impl.AngleTurns(y, x)
			if !impl.IsFinite(y) || !impl.IsFinite(x) {
				wantNumber(t, "the angle of what is not finite", got, noNumberBits)
			} else if !(got >= -0.5 && got <= 0.5) {
				t.Errorf("the angle of %v, %v: got %v", y, x, got)
			}
		}
	}
}

func TestTenthsOf(t *testing.T) {
	for _, row := range tenthsRows {
		if got, ok := impl.TenthsOf(number(row.power)); got != row.tenths || !ok {
			t.Errorf("TenthsOf %08x: got %d %v, want %d", row.power, got, ok, row.tenths)
		}
	}
	for _, bits := range []int64{0, 0x80000000, 0x80000001, 0xbf800000, 0xff7fffff, 0x7f800000, 0xff800000, 0x7fc00000, 0xffc00000} {
		if got, ok := impl.TenthsOf(number(bits)); got != 0 || ok {
			t.Errorf("TenthsOf %08x: got %d %v, want it to fail", bits, got, ok)
		}
	}
}

func TestExpAndLog(t *testing.T) {
	for _, row := range powerRows {
		wantNumber(t, "LogNumber", impl.LogNumber(number(row.x)), row.log)
		wantNumber(t, "ExpNumber", impl.ExpNumber(number(row.x)), row.exp)
	}
	wantNumber(t, "the logarithm of +0", impl.LogNumber(0), 0xff800000)
	wantNumber(t, "the logarithm of -0", impl.LogNumber(number(0x80000000)), 0xff800000)
	wantNumber(t, "the logarithm of a negative subnormal number", impl.LogNumber(number(0x80000001)), noNumberBits)
	wantNumber(t, "the logarithm of the infinity", impl.LogNumber(number(0x7f800000)), 0x7f800000)
	wantNumber(t, "the logarithm of the negative infinity", impl.LogNumber(number(0xff800000)), noNumberBits)
	wantNumber(t, "e to the infinity", impl.ExpNumber(number(0x7f800000)), 0x7f800000)
	wantNumber(t, "e to the negative infinity", impl.ExpNumber(number(0xff800000)), 0)
	for n := -80; n <= 80; n++ {
		x := float32(n) + 0.25
		if got := impl.LogNumber(impl.ExpNumber(x)); math.Abs(float64(got-x)) > 1e-5 {
			t.Errorf("the logarithm of e to %v: got %v", x, got)
		}
	}
}
