package impl

import (
	"math"
	"strconv"
	"strings"
)

// Products that are added to something stand in a conversion in this file: a compiler may
// otherwise join a product and a sum into one operation that is rounded only once.

// Limits of chapter 1.
const (
	MaxNumbers = 256
	MaxValue   = 1000000000000000
	MaxItems   = 64
	CheckSize  = 65003
)

// SameNumber reports whether two numbers are the same: both zeros differ, not-a-numbers do not.
func SameNumber(a, b float32) bool {
	return BitsOf(a) == BitsOf(b)
}

// IsFinite reports whether x is neither an infinity nor a not-a-number.
func IsFinite(x float32) bool {
	return isFiniteLong(float64(x))
}

func isFiniteLong(x float64) bool {
	return !math.IsInf(x, 0) && !math.IsNaN(x)
}

// BitsOf returns the bits of a number, and the same ones for all not-a-numbers.
func BitsOf(x float32) int64 {
	if x != x {
		return 0x7fc00000
	}
	return int64(math.Float32bits(x))
}

// FromBits returns the number with the given bits.
func FromBits(n int64) (float32, bool) {
	if n < 0 || n > math.MaxUint32 {
		return 0, false
	}
	return math.Float32frombits(uint32(n)), true
}

// NarrowNumber returns the nearest 32-bit number.
func NarrowNumber(x float64) float32 {
	return float32(x)
}

// IsSubnormal reports whether x is not zero and nearer to 0 than all normal numbers.
func IsSubnormal(x float32) bool {
	return x != 0 && math.Abs(float64(x)) < 0x1p-126
}

// FlushNumber returns x, but a zero with the sign of x if it is subnormal.
func FlushNumber(x float32) float32 {
	if IsSubnormal(x) {
		return float32(math.Copysign(0, float64(x)))
	}
	return x
}

// SameComplex reports whether both parts of two complex numbers are the same.
func SameComplex(a, b complex64) bool {
	return SameNumber(real(a), real(b)) && SameNumber(imag(a), imag(b))
}

// IsFiniteComplex reports whether both parts are finite.
func IsFiniteComplex(x complex64) bool {
	return IsFinite(real(x)) && IsFinite(imag(x))
}

// NarrowComplex returns a number with narrowed parts.
func NarrowComplex(x complex128) complex64 {
	return complex(NarrowNumber(real(x)), NarrowNumber(imag(x)))
}

// MulComplex returns the product, whose parts are rounded to 32 bits only in the end.
func MulComplex(x, y complex64) complex64 {
	return NarrowComplex(longProduct(x, y))
}

// longProduct does not use the operator * of complex numbers: how that one rounds is not told.
func longProduct(x, y complex64) complex128 {
	a, b := float64(real(x)), float64(imag(x))
	c, d := float64(real(y)), float64(imag(y))
	return complex(float64(a*c)-float64(b*d), float64(a*d)+float64(b*c))
}

// ScaleComplex returns the products of both parts with a number.
func ScaleComplex(x complex64, by float32) complex64 {
	return complex(float32(real(x)*by), float32(imag(x)*by))
}

// ConjugateOf returns the number with the opposite imaginary part.
func ConjugateOf(x complex64) complex64 {
	return complex(real(x), -imag(x))
}

// PowerOf returns the sum of the squares of both parts.
func PowerOf(x complex64) float32 {
	return NarrowNumber(longPower(x))
}

func longPower(x complex64) float64 {
	a, b := float64(real(x)), float64(imag(x))
	return float64(a*a) + float64(b*b)
}

// LongOf returns the root of the power, which is not narrowed before.
func LongOf(x complex64) float32 {
	return NarrowNumber(math.Sqrt(longPower(x)))
}

// QuotientOf returns the quotient of x and y, also if y is zero.
func QuotientOf(x, y complex64) complex64 {
	product := longProduct(x, ConjugateOf(y))
	power := longPower(y)
	return complex(NarrowNumber(real(product)/power), NarrowNumber(imag(product)/power))
}

// PhasorOf returns the point of the unit circle at some turns.
func PhasorOf(turns float64) complex64 {
	if !isFiniteLong(turns) {
		return complex(noNumber(), noNumber())
	}
	if manyTurns(turns) {
		return 1
	}
	f := partOfTurn(turns)
	quarters := 0
	for f >= 0.25 {
		f -= 0.25
		quarters++
	}
	c, s := sineOf(0.25-f), sineOf(f)
	// 0 less a zero is +0: -s and -c would make -0 of it.
	switch quarters {
	case 1:
		return NarrowComplex(complex(0-s, c))
	case 2:
		return NarrowComplex(complex(0-c, 0-s))
	case 3:
		return NarrowComplex(complex(s, 0-c))
	}
	return NarrowComplex(complex(c, s))
}

func noNumber() float32 {
	return float32(math.NaN())
}

// manyTurns reports whether turns are so many that none of them can be a part of one.
func manyTurns(turns float64) bool {
	return math.Abs(turns) >= 1<<52
}

// partOfTurn takes an integer away, which has no sign if it is 0, as math.Trunc would have it:
// so -0 stays -0.
func partOfTurn(turns float64) float64 {
	f := turns - float64(int64(turns))
	if f < 0 {
		f += 1
	}
	return f
}

// sineOf takes turns that are finite and not many.
func sineOf(turns float64) float64 {
	f := partOfTurn(turns)
	turned := f >= 0.5
	if turned {
		f -= 0.5
	}
	if f > 0.25 {
		f = 0.5 - f
	}
	z := f * 6.283185307179586
	u := z * z
	p := 1.0
	for k := 8.0; k >= 1; k-- {
		p = 1 - float64(u*p)/(2*k*(2*k+1))
	}
	if turned {
		return -float64(z * p)
	}
	return float64(z * p)
}

// SineTurns returns the sine of some turns.
func SineTurns(x float32) float32 {
	turns := float64(x)
	if !isFiniteLong(turns) {
		return noNumber()
	}
	if manyTurns(turns) {
		return 0
	}
	return NarrowNumber(sineOf(turns))
}

// AngleOf returns the angle of a complex number in turns.
func AngleOf(x complex64) float32 {
	return AngleTurns(imag(x), real(x))
}

// AngleTurns returns the angle of the point x, y in turns.
func AngleTurns(y, x float32) float32 {
	if !IsFinite(y) || !IsFinite(x) {
		return noNumber()
	}
	if y == 0 && x == 0 {
		return 0
	}
	a, b := math.Abs(float64(y)), math.Abs(float64(x))
	var angle float64
	if a > b {
		angle = 0.25 - smallAngle(b/a)
	} else {
		angle = smallAngle(a / b)
	}
	if x < 0 {
		angle = 0.5 - angle
	}
	if y < 0 {
		angle = -angle
	}
	return NarrowNumber(angle)
}

// smallAngle returns the angle, in turns, whose tangent t is from 0 to 1. Each of the three
// steps halves the angle, so that few members of the series suffice.
func smallAngle(t float64) float64 {
	for range 3 {
		t = t / (1 + math.Sqrt(1+float64(t*t)))
	}
	u := t * t
	p := 0.0
	for k := 15.0; k >= 1; k -= 2 {
		p = 1/k - float64(u*p)
	}
	return 8 * float64(t*p) / 6.283185307179586
}

// TenthsOf returns the tenths of decibels of a finite power greater than 0.
func TenthsOf(power float32) (int64, bool) {
	if !IsFinite(power) || power <= 0 {
		return 0, false
	}
	tenths := float64(logOf(float64(power)) * 43.42944819032518)
	return int64(math.Floor(tenths + 0.5)), true
}

// LogNumber returns the natural logarithm.
func LogNumber(x float32) float32 {
	switch {
	case x != x || x < 0:
		return noNumber()
	case x == 0:
		return float32(math.Inf(-1))
	case !IsFinite(x):
		return x
	}
	return NarrowNumber(logOf(float64(x)))
}

// logOf takes a finite number greater than 0.
func logOf(x float64) float64 {
	e := 0.0
	for x >= 1.5 {
		x /= 2
		e++
	}
	for x < 0.75 {
		x *= 2
		e--
	}
	s := (x - 1) / (x + 1)
	u := s * s
	q := 0.0
	for k := 25.0; k >= 1; k -= 2 {
		q = 1/k + float64(u*q)
	}
	return 2*float64(s*q) + float64(e*0.6931471805599453)
}

// RootNumber returns the square root, a not-a-number for negative x, and -0 for -0.
func RootNumber(x float32) float32 {
	return NarrowNumber(math.Sqrt(float64(x)))
}

// ExpNumber returns e to the power of x.
func ExpNumber(x float32) float32 {
	if x > 200 {
		return float32(math.Inf(1))
	}
	if x < -200 {
		return 0
	}
	t := float64(x) / 256
	p := 1.0
	for k := 12.0; k >= 1; k-- {
		p = 1 + float64(t*p)/k
	}
	for range 8 {
		p *= p
	}
	return NarrowNumber(p)
}

// SumNumbers returns the sum from left to right.
func SumNumbers(list []float32) (float32, bool) {
	if len(list) > MaxNumbers {
		return 0, false
	}
	sum := float32(0)
	for _, x := range list {
		sum += x
	}
	return sum, true
}

// DotNumbers returns the sum of the products of two lists of the same length.
func DotNumbers(a, b []float32) (float32, bool) {
	if len(a) != len(b) || len(a) > MaxNumbers {
		return 0, false
	}
	sum := float32(0)
	for i, x := range a {
		sum += float32(x * b[i])
	}
	return sum, true
}

// SumComplex returns the sum from left to right.
func SumComplex(list []complex64) (complex64, bool) {
	if len(list) > MaxNumbers {
		return 0, false
	}
	sum := complex64(0)
	for _, x := range list {
		sum += x
	}
	return sum, true
}

// DotComplex returns the sum of the products of two lists of the same length.
func DotComplex(a, b []complex64) (complex64, bool) {
	if len(a) != len(b) || len(a) > MaxNumbers {
		return 0, false
	}
	sum := complex64(0)
	for i, x := range a {
		sum += MulComplex(x, b[i])
	}
	return sum, true
}

// DotConjugate returns the sum of the products of the conjugates of a and the numbers of b.
func DotConjugate(a, b []complex64) (complex64, bool) {
	if len(a) > MaxNumbers {
		return 0, false
	}
	conjugates := make([]complex64, len(a))
	for i, x := range a {
		conjugates[i] = ConjugateOf(x)
	}
	return DotComplex(conjugates, b)
}

// PowersOf returns the sum of the powers, which is narrowed only in the end.
func PowersOf(list []complex64) (float32, bool) {
	if len(list) > MaxNumbers {
		return 0, false
	}
	sum := 0.0
	for _, x := range list {
		sum += longPower(x)
	}
	return NarrowNumber(sum), true
}

// NumbersText returns the text of numbers.
func NumbersText(list []float32) (string, bool) {
	return textOfList(list, MaxNumbers, numberText)
}

// ReadNumbers returns the numbers with the given text.
func ReadNumbers(s string) ([]float32, bool) {
	return readListText(s, MaxNumbers, readNumber)
}

// ComplexText returns the text of complex numbers.
func ComplexText(list []complex64) (string, bool) {
	return textOfList(list, MaxNumbers, partsText)
}

// ReadComplex returns the complex numbers with the given text.
func ReadComplex(s string) ([]complex64, bool) {
	return readListText(s, MaxNumbers, readParts)
}

// textOfList joins the texts of the items, of which there are at most most.
func textOfList[T any](list []T, most int, itemText func(T) (string, bool)) (string, bool) {
	if len(list) > most {
		return "", false
	}
	if len(list) == 0 {
		return "none", true
	}
	texts := make([]string, len(list))
	for i, item := range list {
		text, ok := itemText(item)
		if !ok {
			return "", false
		}
		texts[i] = text
	}
	return strings.Join(texts, ","), true
}

// readListText returns the list whose textOfList is s.
func readListText[T any](s string, most int, readItem func(string) (T, bool)) ([]T, bool) {
	if s == "none" {
		return nil, true
	}
	if strings.Count(s, ",") >= most {
		return nil, false
	}
	texts := strings.Split(s, ",")
	list := make([]T, len(texts))
	for i, text := range texts {
		item, ok := readItem(text)
		if !ok {
			return nil, false
		}
		list[i] = item
	}
	return list, true
}

// numberText returns 8 digits; it has a bool only to be a function for textOfList.
func numberText(x float32) (string, bool) {
	const digits = "0123456789abcdef"
	bits := BitsOf(x)
	text := make([]byte, 8)
	for i := len(text) - 1; i >= 0; i-- {
		text[i] = digits[bits%16]
		bits /= 16
	}
	return string(text), true
}

func readNumber(s string) (float32, bool) {
	if len(s) != 8 {
		return 0, false
	}
	bits := int64(0)
	for _, r := range s {
		digit, ok := digitOf(r)
		if !ok {
			return 0, false
		}
		bits = bits*16 + digit
	}
	x, ok := FromBits(bits)
	// All not-a-numbers have one text, so the other bits of them are no text of a number.
	if !ok || BitsOf(x) != bits {
		return 0, false
	}
	return x, true
}

func digitOf(r rune) (int64, bool) {
	switch {
	case '0' <= r && r <= '9':
		return int64(r - '0'), true
	case 'a' <= r && r <= 'f':
		return int64(r-'a') + 10, true
	}
	return 0, false
}

func partsText(x complex64) (string, bool) {
	a, _ := numberText(real(x))
	b, _ := numberText(imag(x))
	return a + b, true
}

func readParts(s string) (complex64, bool) {
	if len(s) != 16 {
		return 0, false
	}
	a, first := readNumber(s[:8])
	b, second := readNumber(s[8:])
	if !first || !second {
		return 0, false
	}
	return complex(a, b), true
}

// IsName reports whether s has 1 to 8 letters a to z.
func IsName(s string) bool {
	if len(s) < 1 || len(s) > 8 {
		return false
	}
	for _, r := range s {
		if r < 'a' || r > 'z' {
			return false
		}
	}
	return true
}

// Decimal returns n in decimal.
func Decimal(n int64) string {
	return strconv.FormatInt(n, 10)
}

// ReadDecimal returns the number from -MaxValue to MaxValue with the given decimal text.
func ReadDecimal(s string) (int64, bool) {
	n, err := strconv.ParseInt(s, 10, 64)
	// ParseInt reads more than one text of a number: +1, 01 and -0 are not Decimal of any.
	if err != nil || !isValue(n) || Decimal(n) != s {
		return 0, false
	}
	return n, true
}

func isValue(n int64) bool {
	return -MaxValue <= n && n <= MaxValue
}

// ListText returns the text of a list of integers.
func ListText(list []int64) (string, bool) {
	return textOfList(list, MaxItems, valueText)
}

func valueText(n int64) (string, bool) {
	if !isValue(n) {
		return "", false
	}
	return Decimal(n), true
}

// ReadList returns the list of integers with the given text.
func ReadList(s string) ([]int64, bool) {
	return readListText(s, MaxItems, ReadDecimal)
}

// CheckOf returns the check number of a text that begins with start.
func CheckOf(start int64, s string) (int64, bool) {
	if start < 0 || start >= CheckSize {
		return 0, false
	}
	check := start
	for i := range len(s) {
		check = (863*check + int64(s[i]) + 157) % CheckSize
	}
	return check, true
}
