// Package impl makes voices in tubes in single precision, and tells each number to the last bit.
package impl

import (
	"math"
	"strconv"
	"strings"
)

// Limits of chapter 1.
const (
	MaxNumbers = 256
	MaxValue   = 1000000000000000
	MaxItems   = 64
	CheckSize  = 65003
)

const (
	bitsOfNaN     = 2143289344
	mostBits      = 4294967295
	leastNormal   = 0x1p-126
	wholeFrom     = 0x1p52 // from here on, 64-bit numbers have no places behind the point
	radiansOfTurn = 6.283185307179586
	logOfTwo      = 0.6931471805599453
	tenthsOfNeper = 43.42944819032518
	mostExponent  = 200
	hexDigits     = 8
	mostNameBytes = 8
	textOfNothing = "none"
)

// Products that are added to something are converted explicitly in this file:
// without that, Go may join a product and a sum into one operation that is rounded once.

// SameNumber reports whether two numbers are the same.
func SameNumber(a, b float32) bool {
	return BitsOf(a) == BitsOf(b)
}

// IsFinite reports whether x is finite.
func IsFinite(x float32) bool {
	return isFinite64(float64(x))
}

func isFinite64(x float64) bool {
	return !math.IsNaN(x) && !math.IsInf(x, 0)
}

func isNaN(x float32) bool {
	return math.IsNaN(float64(x))
}

// notANumber returns the one value that stands for all not-a-numbers.
func notANumber() float32 {
	return math.Float32frombits(bitsOfNaN)
}

// BitsOf returns the bits of a number.
func BitsOf(x float32) int64 {
	if isNaN(x) {
		return bitsOfNaN
	}
	return int64(math.Float32bits(x))
}

// FromBits returns the number with the given bits.
func FromBits(n int64) (float32, bool) {
	if n < 0 || n > mostBits {
		return 0, false
	}
	return math.Float32frombits(uint32(n)), true
}

// NarrowNumber returns the nearest 32-bit number.
func NarrowNumber(x float64) float32 {
	return float32(x)
}

// IsSubnormal reports whether x is subnormal.
func IsSubnormal(x float32) bool {
	return x != 0 && math.Abs(float64(x)) < leastNormal
}

// FlushNumber returns x, but a zero if it is subnormal.
func FlushNumber(x float32) float32 {
	if !IsSubnormal(x) {
		return x
	}
	return float32(math.Copysign(0, float64(x)))
}

// SameComplex reports whether two complex numbers are the same.
func SameComplex(a, b complex64) bool {
	return SameNumber(real(a), real(b)) && SameNumber(imag(a), imag(b))
}

// IsFiniteComplex reports whether both parts are finite.
func IsFiniteComplex(x complex64) bool {
	return IsFinite(real(x)) && IsFinite(imag(x))
}

// NarrowComplex returns a number with narrowed parts.
func NarrowComplex(x complex128) complex64 {
	return complex(float32(real(x)), float32(imag(x)))
}

// wideProduct returns the product of two complex numbers before it is narrowed.
// Its parts are told one by one, since Go's own product of complex numbers may be fused.
func wideProduct(x, y complex64) complex128 {
	a, b := float64(real(x)), float64(imag(x))
	c, d := float64(real(y)), float64(imag(y))
	return complex(float64(a*c)-float64(b*d), float64(a*d)+float64(b*c))
}

// widePower returns the power of a complex number before it is narrowed.
func widePower(x complex64) float64 {
	a, b := float64(real(x)), float64(imag(x))
	return float64(a*a) + float64(b*b)
}

// MulComplex returns a product.
func MulComplex(x, y complex64) complex64 {
	return NarrowComplex(wideProduct(x, y))
}

// ScaleComplex returns a product with a number.
func ScaleComplex(x complex64, by float32) complex64 {
	return complex(float32(real(x)*by), float32(imag(x)*by))
}

// ConjugateOf returns the conjugate.
func ConjugateOf(x complex64) complex64 {
	return complex(real(x), -imag(x))
}

// PowerOf returns the power.
func PowerOf(x complex64) float32 {
	return float32(widePower(x))
}

// LongOf returns the root of the power.
func LongOf(x complex64) float32 {
	return float32(math.Sqrt(widePower(x)))
}

// QuotientOf returns a quotient.
func QuotientOf(x, y complex64) complex64 {
	product := wideProduct(x, ConjugateOf(y))
	power := widePower(y)
	return complex(float32(real(product)/power), float32(imag(product)/power))
}

// RootNumber returns the square root.
func RootNumber(x float32) float32 {
	return float32(math.Sqrt(float64(x)))
}

// partOfTurn returns what is behind the whole turns, at least 0 and less than 1,
// but 1 where a negative number is so near to 0 that the sum is rounded to it.
func partOfTurn(turns float64) float64 {
	// The way through an integer takes the sign from a whole part of 0, so that -0 stays -0.
	f := turns - float64(int64(turns))
	if f < 0 {
		f += 1
	}
	return f
}

// wideSine returns the sine of turns that are nearer to 0 than wholeFrom.
func wideSine(turns float64) float64 {
	f := partOfTurn(turns)
	below := f >= 0.5
	if below {
		f -= 0.5
	}
	if f > 0.25 {
		f = 0.5 - f
	}
	z := float64(f * radiansOfTurn)
	u := float64(z * z)
	p := 1.0
	for k := 8; k >= 1; k-- {
		p = 1 - float64(u*p)/float64(2*k*(2*k+1))
	}
	sine := float64(z * p)
	if below {
		return -sine
	}
	return sine
}

// SineTurns returns the sine of some turns.
func SineTurns(x float32) float32 {
	turns := float64(x)
	if !isFinite64(turns) {
		return notANumber()
	}
	if math.Abs(turns) >= wholeFrom {
		return 0
	}
	return float32(wideSine(turns))
}

// PhasorOf returns a point of the unit circle.
func PhasorOf(turns float64) complex64 {
	if !isFinite64(turns) {
		return complex(notANumber(), notANumber())
	}
	if math.Abs(turns) >= wholeFrom {
		return 1
	}
	f := partOfTurn(turns)
	quarters := 0
	for f >= 0.25 {
		f -= 0.25
		quarters++
	}
	c, s := wideSine(0.25-f), wideSine(f)
	// Differences from 0, since an opposite would make -0 of +0.
	switch quarters {
	case 1:
		return NarrowComplex(complex(0-s, c))
	case 2:
		return NarrowComplex(complex(0-c, 0-s))
	case 3:
		return NarrowComplex(complex(s, 0-c))
	}
	return NarrowComplex(complex(c, s))
}

// AngleOf returns the angle in turns.
func AngleOf(x complex64) float32 {
	return AngleTurns(imag(x), real(x))
}

// AngleTurns returns the angle of a point.
func AngleTurns(y, x float32) float32 {
	if !IsFinite(y) || !IsFinite(x) {
		return notANumber()
	}
	if y == 0 && x == 0 {
		return 0
	}
	a, b := math.Abs(float64(y)), math.Abs(float64(x))
	steep := a > b
	if steep {
		a, b = b, a
	}
	angle := eighthAngle(a / b)
	if steep {
		angle = 0.25 - angle
	}
	if x < 0 {
		angle = 0.5 - angle
	}
	if y < 0 {
		angle = -angle
	}
	return float32(angle)
}

// eighthAngle returns the angle with a tangent from 0 to 1.
func eighthAngle(t float64) float64 {
	for range 3 {
		t = t / (1 + math.Sqrt(1+float64(t*t)))
	}
	u := float64(t * t)
	p := 0.0
	for k := 15; k >= 1; k -= 2 {
		p = 1/float64(k) - float64(u*p)
	}
	return float64(8*float64(t*p)) / radiansOfTurn
}

// wideLog returns the natural logarithm of a finite number greater than 0.
func wideLog(x float64) float64 {
	e := 0
	for x >= 1.5 {
		x /= 2
		e++
	}
	for x < 0.75 {
		x *= 2
		e--
	}
	s := (x - 1) / (x + 1)
	u := float64(s * s)
	q := 0.0
	for k := 25; k >= 1; k -= 2 {
		q = 1/float64(k) + float64(u*q)
	}
	return float64(2*float64(s*q)) + float64(float64(e)*logOfTwo)
}

// TenthsOf returns tenths of decibels.
func TenthsOf(power float32) (int64, bool) {
	if !IsFinite(power) || power <= 0 {
		return 0, false
	}
	tenths := float64(wideLog(float64(power)) * tenthsOfNeper)
	return int64(math.Floor(tenths + 0.5)), true
}

// LogNumber returns the logarithm.
func LogNumber(x float32) float32 {
	switch {
	case isNaN(x) || x < 0:
		return notANumber()
	case x == 0:
		return float32(math.Inf(-1))
	case !IsFinite(x):
		return x
	}
	return float32(wideLog(float64(x)))
}

// ExpNumber returns e to a power.
func ExpNumber(x float32) float32 {
	switch {
	case isNaN(x):
		return notANumber()
	case x > mostExponent:
		return float32(math.Inf(1))
	case x < -mostExponent:
		return 0
	}
	t := float64(x) / 256
	p := 1.0
	for k := 12; k >= 1; k-- {
		p = 1 + float64(t*p)/float64(k)
	}
	for range 8 {
		p = float64(p * p)
	}
	return float32(p)
}

// SumNumbers returns the sum from left to right.
func SumNumbers(list []float32) (float32, bool) {
	if len(list) > MaxNumbers {
		return 0, false
	}
	sum := float32(0)
	for _, x := range list {
		sum += x
	}
	return sum, true
}

// DotNumbers returns the sum of products.
func DotNumbers(a, b []float32) (float32, bool) {
	if len(a) > MaxNumbers || len(a) != len(b) {
		return 0, false
	}
	sum := float32(0)
	for i, x := range a {
		sum += float32(x * b[i])
	}
	return sum, true
}

// SumComplex returns the sum from left to right.
func SumComplex(list []complex64) (complex64, bool) {
	if len(list) > MaxNumbers {
		return 0, false
	}
	sum := complex64(0)
	for _, x := range list {
		sum += x
	}
	return sum, true
}

// DotComplex returns the sum of products.
func DotComplex(a, b []complex64) (complex64, bool) {
	if len(a) > MaxNumbers || len(a) != len(b) {
		return 0, false
	}
	sum := complex64(0)
	for i, x := range a {
		sum += MulComplex(x, b[i])
	}
	return sum, true
}

// DotConjugate returns the sum of products with conjugates.
func DotConjugate(a, b []complex64) (complex64, bool) {
	if len(a) > MaxNumbers {
		return 0, false
	}
	conjugates := make([]complex64, 0, len(a))
	for _, x := range a {
		conjugates = append(conjugates, ConjugateOf(x))
	}
	return DotComplex(conjugates, b)
}

// PowersOf returns the sum of powers.
func PowersOf(list []complex64) (float32, bool) {
	if len(list) > MaxNumbers {
		return 0, false
	}
	sum := 0.0
	for _, x := range list {
		sum += widePower(x)
	}
	return float32(sum), true
}

// writeList returns the text of at most most items, each of which has the text that write returns.
func writeList[T any](list []T, most int, write func(T) (string, bool)) (string, bool) {
	if len(list) > most {
		return "", false
	}
	if len(list) == 0 {
		return textOfNothing, true
	}
	texts := make([]string, 0, len(list))
	for _, item := range list {
		text, ok := write(item)
		if !ok {
			return "", false
		}
		texts = append(texts, text)
	}
	return strings.Join(texts, ","), true
}

// readList returns the list whose writeList is s, where read undoes write.
func readList[T any](s string, most int, read func(string) (T, bool)) ([]T, bool) {
	if s == textOfNothing {
		return nil, true
	}
	if strings.Count(s, ",") >= most {
		return nil, false
	}
	list := []T{}
	for _, text := range strings.Split(s, ",") {
		item, ok := read(text)
		if !ok {
			return nil, false
		}
		list = append(list, item)
	}
	return list, true
}

// writeHex returns the digits of the bits of a number; it never fails.
func writeHex(x float32) (string, bool) {
	digits := strconv.FormatInt(BitsOf(x), 16)
	return strings.Repeat("0", hexDigits-len(digits)) + digits, true
}

// valueOfDigit returns the value of a hexadecimal digit; capital letters are none.
func valueOfDigit(r rune) (int64, bool) {
	switch {
	case r >= '0' && r <= '9':
		return int64(r - '0'), true
	case r >= 'a' && r <= 'f':
		return int64(r-'a') + 10, true
	}
	return 0, false
}

// readHex returns the number whose writeHex is s.
func readHex(s string) (float32, bool) {
	if len(s) != hexDigits {
		return 0, false
	}
	bits := int64(0)
	for _, r := range s {
		digit, ok := valueOfDigit(r)
		if !ok {
			return 0, false
		}
		bits = bits*16 + digit
	}
	x, ok := FromBits(bits)
	// Not-a-numbers are written with one value of their bits only.
	if !ok || BitsOf(x) != bits {
		return 0, false
	}
	return x, true
}

// writeHexPair returns the digits of both parts; it never fails.
func writeHexPair(x complex64) (string, bool) {
	re, _ := writeHex(real(x))
	im, _ := writeHex(imag(x))
	return re + im, true
}

// readHexPair returns the complex number whose writeHexPair is s.
func readHexPair(s string) (complex64, bool) {
	if len(s) != 2*hexDigits {
		return 0, false
	}
	re, okRe := readHex(s[:hexDigits])
	im, okIm := readHex(s[hexDigits:])
	if !okRe || !okIm {
		return 0, false
	}
	return complex(re, im), true
}

// NumbersText returns the text of numbers.
func NumbersText(list []float32) (string, bool) {
	return writeList(list, MaxNumbers, writeHex)
}

// ReadNumbers returns the numbers with the given text.
func ReadNumbers(s string) ([]float32, bool) {
	return readList(s, MaxNumbers, readHex)
}

// ComplexText returns the text of complex numbers.
func ComplexText(list []complex64) (string, bool) {
	return writeList(list, MaxNumbers, writeHexPair)
}

// ReadComplex returns the complex numbers with the given text.
func ReadComplex(s string) ([]complex64, bool) {
	return readList(s, MaxNumbers, readHexPair)
}

// IsName reports whether s is a name.
func IsName(s string) bool {
	if len(s) < 1 || len(s) > mostNameBytes {
		return false
	}
	for _, r := range s {
		if r < 'a' || r > 'z' {
			return false
		}
	}
	return true
}

// Decimal returns n in decimal.
func Decimal(n int64) string {
	return strconv.FormatInt(n, 10)
}

// writeDecimal returns Decimal of a number from -MaxValue to MaxValue.
func writeDecimal(n int64) (string, bool) {
	if n < -MaxValue || n > MaxValue {
		return "", false
	}
	return Decimal(n), true
}

// ReadDecimal returns the number with the given decimal text.
func ReadDecimal(s string) (int64, bool) {
	n, err := strconv.ParseInt(s, 10, 64)
	if err != nil {
		return 0, false
	}
	// ParseInt also takes a plus sign, leading zeros and -0.
	text, ok := writeDecimal(n)
	if !ok || text != s {
		return 0, false
	}
	return n, true
}

// ListText returns the text of a list.
func ListText(list []int64) (string, bool) {
	return writeList(list, MaxItems, writeDecimal)
}

// ReadList returns the list with the given text.
func ReadList(s string) ([]int64, bool) {
	return readList(s, MaxItems, ReadDecimal)
}

// CheckOf returns the check number of a text.
func CheckOf(start int64, s string) (int64, bool) {
	if start < 0 || start >= CheckSize {
		return 0, false
	}
	check := start
	for i := range len(s) {
		check = (797*check + int64(s[i]) + 101) % CheckSize
	}
	return check, true
}
