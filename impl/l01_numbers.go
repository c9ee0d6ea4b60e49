package impl

import (
	"math"
	"strconv"
	"strings"
)

// Limits of chapter 1.
const (
	MaxNumbers = 256
	MaxValue   = 1000000000000000
	MaxItems   = 64
	CheckSize  = 65003
)

const (
	notANumberBits = 0x7fc00000
	mostBits       = 0xffffffff
	hexDigits      = 8
	nameLimit      = 8
	emptyText      = "none"

	// From here on a number of turns is told as a whole circle.
	wholeTurns = 1 << 52
)

// In this file a product is written inside float32(..) or float64(..) wherever
// it may be added to something: the conversion keeps the compiler from fusing
// both operations into one that is rounded only once.

// SameNumber reports whether two numbers are the same.
func SameNumber(a, b float32) bool { return BitsOf(a) == BitsOf(b) }

// IsFinite reports whether x is finite.
func IsFinite(x float32) bool { return isFiniteLong(float64(x)) }

func isFiniteLong(x float64) bool { return !math.IsNaN(x) && !math.IsInf(x, 0) }

func notANumber() float32 { return math.Float32frombits(notANumberBits) }

// BitsOf returns the bits of a number.
func BitsOf(x float32) int64 {
	if x != x {
		return notANumberBits
	}
	return int64(math.Float32bits(x))
}

// FromBits returns the number with the given bits.
func FromBits(n int64) (float32, bool) {
	if n < 0 || n > mostBits {
		return 0, false
	}
	return math.Float32frombits(uint32(n)), true
}

// NarrowNumber returns the nearest 32-bit number.
func NarrowNumber(x float64) float32 { return float32(x) }

// IsSubnormal reports whether x is subnormal.
func IsSubnormal(x float32) bool {
	const leastNormal = 0x1p-126
	return x != 0 && x > -leastNormal && x < leastNormal
}

// FlushNumber returns x, but a zero with its sign if it is subnormal.
func FlushNumber(x float32) float32 {
	if IsSubnormal(x) {
		return float32(math.Copysign(0, float64(x)))
	}
	return x
}

// SameComplex reports whether two complex numbers are the same.
func SameComplex(a, b complex64) bool {
	return SameNumber(real(a), real(b)) && SameNumber(imag(a), imag(b))
}

// IsFiniteComplex reports whether both parts are finite.
func IsFiniteComplex(x complex64) bool { return IsFinite(real(x)) && IsFinite(imag(x)) }

// NarrowComplex returns a number with narrowed parts.
func NarrowComplex(x complex128) complex64 {
	return complex(float32(real(x)), float32(imag(x)))
}

// longProduct returns the product with 64-bit parts.
func longProduct(x, y complex64) complex128 {
	a, b := float64(real(x)), float64(imag(x))
	c, d := float64(real(y)), float64(imag(y))
	return complex(float64(a*c)-float64(b*d), float64(a*d)+float64(b*c))
}

// MulComplex returns a product.
func MulComplex(x, y complex64) complex64 { return NarrowComplex(longProduct(x, y)) }

// ScaleComplex returns a product with a number.
func ScaleComplex(x complex64, by float32) complex64 {
	return complex(float32(real(x)*by), float32(imag(x)*by))
}

// ConjugateOf returns the conjugate.
func ConjugateOf(x complex64) complex64 { return complex(real(x), -imag(x)) }

// longPower returns the power as a 64-bit number.
func longPower(x complex64) float64 {
	a, b := float64(real(x)), float64(imag(x))
	return float64(a*a) + float64(b*b)
}

// PowerOf returns the power.
func PowerOf(x complex64) float32 { return float32(longPower(x)) }

// LongOf returns the root of the power.
func LongOf(x complex64) float32 { return float32(math.Sqrt(longPower(x))) }

// QuotientOf returns a quotient.
func QuotientOf(x, y complex64) complex64 {
	product := longProduct(x, ConjugateOf(y))
	power := longPower(y)
	return complex(float32(real(product)/power), float32(imag(product)/power))
}

// partOfTurn returns what is left of some turns without the whole ones.
func partOfTurn(turns float64) float64 {
	part := turns
	// No whole turn is taken away as +0, which leaves even -0 as it is.
	if whole := math.Trunc(turns); whole != 0 {
		part -= whole
	}
	if part < 0 {
		part++
	}
	return part
}

// sineOf returns the sine of some turns, as a 64-bit number.
func sineOf(turns float64) float64 {
	f := partOfTurn(turns)
	turned := f >= 0.5
	if turned {
		f -= 0.5
	}
	if f > 0.25 {
		f = 0.5 - f
	}
	z := float64(f * 6.283185307179586)
	u := float64(z * z)
	p := 1.0
	for k := 8; k >= 1; k-- {
		p = 1 - float64(u*p)/float64(2*k*(2*k+1))
	}
	if turned {
		return -float64(z * p)
	}
	return float64(z * p)
}

// PhasorOf returns a point of the unit circle.
func PhasorOf(turns float64) complex64 {
	if !isFiniteLong(turns) {
		return complex(notANumber(), notANumber())
	}
	if math.Abs(turns) >= wholeTurns {
		return 1
	}
	f := partOfTurn(turns)
	quarters := 0
	for f >= 0.25 {
		f -= 0.25
		quarters++
	}
	c, s := sineOf(0.25-f), sineOf(f)
	switch quarters {
	case 1:
		return NarrowComplex(complex(0-s, c))
	case 2:
		return NarrowComplex(complex(0-c, 0-s))
	case 3:
		return NarrowComplex(complex(s, 0-c))
	}
	return NarrowComplex(complex(c, s))
}

// AngleOf returns the angle in turns.
func AngleOf(x complex64) float32 { return AngleTurns(imag(x), real(x)) }

// SineTurns returns the sine of some turns.
func SineTurns(x float32) float32 {
	turns := float64(x)
	if !isFiniteLong(turns) {
		return notANumber()
	}
	if math.Abs(turns) >= wholeTurns {
		return 0
	}
	return float32(sineOf(turns))
}

// AngleTurns returns the angle of a point.
func AngleTurns(y, x float32) float32 {
	if !IsFinite(y) || !IsFinite(x) {
		return notANumber()
	}
	if y == 0 && x == 0 {
		return 0
	}
	a, b := math.Abs(float64(y)), math.Abs(float64(x))
	angle := steepAngle(min(a, b) / max(a, b))
	if a > b {
		angle = 0.25 - angle
	}
	if x < 0 {
		angle = 0.5 - angle
	}
	if y < 0 {
		angle = -angle
	}
	return float32(angle)
}

// steepAngle returns the angle, in turns, of a line that rises by t, from 0 to 1.
func steepAngle(t float64) float64 {
	for range 3 {
		t = t / (1 + math.Sqrt(1+float64(t*t)))
	}
	u := float64(t * t)
	p := 0.0
	for k := 15; k >= 1; k -= 2 {
		p = 1/float64(k) - float64(u*p)
	}
	return float64(8*float64(t*p)) / 6.283185307179586
}

// logOf returns the logarithm of a finite number greater than 0, as a 64-bit number.
func logOf(power float64) float64 {
	x, e := power, 0.0
	for x >= 1.5 {
		x /= 2
		e++
	}
	for x < 0.75 {
		x *= 2
		e--
	}
	s := (x - 1) / (x + 1)
	u := float64(s * s)
	q := 0.0
	for k := 25; k >= 1; k -= 2 {
		q = 1/float64(k) + float64(u*q)
	}
	return float64(2*float64(s*q)) + float64(e*0.6931471805599453)
}

// expOf returns e to a power, as a 64-bit number.
func expOf(x float64) float64 {
	if x > 200 {
		return math.Inf(1)
	}
	if x < -200 {
		return 0
	}
	t := x / 256
	p := 1.0
	for k := 12; k >= 1; k-- {
		p = 1 + float64(t*p)/float64(k)
	}
	for range 8 {
		p = float64(p * p)
	}
	return p
}

// TenthsOf returns tenths of decibels.
func TenthsOf(power float32) (int64, bool) {
	if !IsFinite(power) || power <= 0 {
		return 0, false
	}
	tenths := float64(logOf(float64(power))*43.42944819032518) + 0.5
	return int64(math.Floor(tenths)), true
}

// RootNumber returns the square root.
func RootNumber(x float32) float32 { return float32(math.Sqrt(float64(x))) }

// ExpNumber returns e to a power.
func ExpNumber(x float32) float32 { return float32(expOf(float64(x))) }

// LogNumber returns the logarithm.
func LogNumber(x float32) float32 {
	switch {
	case x == 0:
		return float32(math.Inf(-1))
	case x < 0 || x != x:
		return notANumber()
	case !IsFinite(x):
		return x
	}
	return float32(logOf(float64(x)))
}

// SumNumbers returns the sum from left to right.
func SumNumbers(list []float32) (float32, bool) {
	if len(list) > MaxNumbers {
		return 0, false
	}
	sum := float32(0)
	for _, x := range list {
		sum += x
	}
	return sum, true
}

// DotNumbers returns the sum of products.
func DotNumbers(a, b []float32) (float32, bool) {
	if len(a) > MaxNumbers || len(a) != len(b) {
		return 0, false
	}
	sum := float32(0)
	for i, x := range a {
		sum += float32(x * b[i])
	}
	return sum, true
}

// SumComplex returns the sum from left to right.
func SumComplex(list []complex64) (complex64, bool) {
	if len(list) > MaxNumbers {
		return 0, false
	}
	sum := complex64(0)
	for _, x := range list {
		sum += x
	}
	return sum, true
}

// DotComplex returns the sum of products.
func DotComplex(a, b []complex64) (complex64, bool) {
	return sumPairs(a, b, MulComplex)
}

// DotConjugate returns the sum of products with conjugates.
func DotConjugate(a, b []complex64) (complex64, bool) {
	return sumPairs(a, b, func(x, y complex64) complex64 {
		return MulComplex(ConjugateOf(x), y)
	})
}

func sumPairs(a, b []complex64, product func(x, y complex64) complex64) (complex64, bool) {
	if len(a) > MaxNumbers || len(a) != len(b) {
		return 0, false
	}
	sum := complex64(0)
	for i, x := range a {
		sum += product(x, b[i])
	}
	return sum, true
}

// PowersOf returns the sum of powers.
func PowersOf(list []complex64) (float32, bool) {
	if len(list) > MaxNumbers {
		return 0, false
	}
	sum := 0.0
	for _, x := range list {
		sum += longPower(x)
	}
	return float32(sum), true
}

// joinAll returns the texts of at most most items with commas between them.
func joinAll[T any](list []T, most int, text func(T) (string, bool)) (string, bool) {
	if len(list) > most {
		return "", false
	}
	if len(list) == 0 {
		return emptyText, true
	}
	parts := make([]string, len(list))
	for i, x := range list {
		part, ok := text(x)
		if !ok {
			return "", false
		}
		parts[i] = part
	}
	return strings.Join(parts, ","), true
}

// readAll returns the at most most items whose texts s has with commas between them.
func readAll[T any](s string, most int, read func(string) (T, bool)) ([]T, bool) {
	if s == emptyText {
		return nil, true
	}
	parts := strings.SplitN(s, ",", most+1)
	if len(parts) > most {
		return nil, false
	}
	list := make([]T, len(parts))
	for i, part := range parts {
		x, ok := read(part)
		if !ok {
			return nil, false
		}
		list[i] = x
	}
	return list, true
}

// numberText returns the hexadecimal digits of the bits of a number.
func numberText(x float32) (string, bool) {
	digits := strconv.FormatInt(BitsOf(x), 16)
	return strings.Repeat("0", hexDigits-len(digits)) + digits, true
}

func hexDigit(r rune) (int64, bool) {
	switch {
	case r >= '0' && r <= '9':
		return int64(r - '0'), true
	case r >= 'a' && r <= 'f':
		return int64(r-'a') + 10, true
	}
	return 0, false
}

func readNumber(s string) (float32, bool) {
	if len(s) != hexDigits {
		return 0, false
	}
	n := int64(0)
	for _, r := range s {
		digit, ok := hexDigit(r)
		if !ok {
			return 0, false
		}
		n = 16*n + digit
	}
	x, ok := FromBits(n)
	// Of all bits of not-a-numbers only those of BitsOf are in a text.
	if !ok || BitsOf(x) != n {
		return 0, false
	}
	return x, true
}

// NumbersText returns the text of numbers.
func NumbersText(list []float32) (string, bool) {
	return joinAll(list, MaxNumbers, numberText)
}

// ReadNumbers returns the numbers with the given text.
func ReadNumbers(s string) ([]float32, bool) {
	return readAll(s, MaxNumbers, readNumber)
}

// complexText returns the texts of the real and of the imaginary part.
func complexText(x complex64) (string, bool) {
	first, _ := numberText(real(x))
	second, _ := numberText(imag(x))
	return first + second, true
}

func readComplexNumber(s string) (complex64, bool) {
	if len(s) != 2*hexDigits {
		return 0, false
	}
	first, firstOK := readNumber(s[:hexDigits])
	second, secondOK := readNumber(s[hexDigits:])
	if !firstOK || !secondOK {
		return 0, false
	}
	return complex(first, second), true
}

// ComplexText returns the text of complex numbers.
func ComplexText(list []complex64) (string, bool) {
	return joinAll(list, MaxNumbers, complexText)
}

// ReadComplex returns the complex numbers with the given text.
func ReadComplex(s string) ([]complex64, bool) {
	return readAll(s, MaxNumbers, readComplexNumber)
}

// IsName reports whether s is a name.
func IsName(s string) bool {
	if s == "" || len(s) > nameLimit {
		return false
	}
	for _, r := range s {
		if r < 'a' || r > 'z' {
			return false
		}
	}
	return true
}

// Decimal returns n in decimal.
func Decimal(n int64) string { return strconv.FormatInt(n, 10) }

func isValue(n int64) bool { return n >= -MaxValue && n <= MaxValue }

// valueText returns Decimal of a number that may be in a list.
func valueText(n int64) (string, bool) {
	if !isValue(n) {
		return "", false
	}
	return Decimal(n), true
}

// ReadDecimal returns the number with the given decimal text.
func ReadDecimal(s string) (int64, bool) {
	n, err := strconv.ParseInt(s, 10, 64)
	// ParseInt also takes a plus, leading zeros and -0, which Decimal never writes.
	if err != nil || !isValue(n) || Decimal(n) != s {
		return 0, false
	}
	return n, true
}

// ListText returns the text of a list.
func ListText(list []int64) (string, bool) {
	return joinAll(list, MaxItems, valueText)
}

// ReadList returns the list with the given text.
func ReadList(s string) ([]int64, bool) {
	return readAll(s, MaxItems, ReadDecimal)
}

// CheckOf returns the check number of a text.
func CheckOf(start int64, s string) (int64, bool) {
	if start < 0 || start >= CheckSize {
		return 0, false
	}
	check := start
	for i := range len(s) {
		check = (829*check + int64(s[i]) + 131) % CheckSize
	}
	return check, true
}
