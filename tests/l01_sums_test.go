package tests

import (
	"fmt"
	"math"
	"testing"

	"loop.example/g01279/impl"
)

func TestSumNumbers(t *testing.T) {
	for _, c := range []struct {
		list []float32
		want float32
	}{
		{nil, 0}, {[]float32{}, 0}, {[]float32{1, 2, 3.5}, 6.5},
		{[]float32{minus0}, 0}, {[]float32{minus0, minus0}, 0},
		// From left to right, each sum rounded to 32 bits.
		{[]float32{0x1p24, 1, 1}, 0x1p24}, {[]float32{1, 1, 0x1p24}, 0x1p24 + 2}, {[]float32{0x1p30, 1, -0x1p30}, 0}, {[]float32{0x1p30, -0x1p30, 1}, 1},
		{[]float32{most, most, -most}, inf}, {[]float32{most, -most, most}, most},
		{[]float32{least, least, -normal}, math.Float32frombits(0x807ffffe)},
		{[]float32{inf, 1}, inf}, {[]float32{inf, -inf}, nan}, {[]float32{1, nan, 2}, nan},
		{repeat(float32(0.1), 10), math.Float32frombits(0x3f800001)},
		{repeat(float32(1), 256), 256},
	} {
		got, ok := impl.SumNumbers(c.list)
		wantSum(t, fmt.Sprint("SumNumbers ", c.list), got, ok, c.want)
	}
	got, ok := impl.SumNumbers(repeat(float32(1), 257))
	wantFailed(t, "SumNumbers of 257", got, ok)
}

func TestDotNumbers(t *testing.T) {
	x := float32(1 + 0x1p-12) // its square is 1 + 2^-11 + 2^-24, which is rounded to y
	y := float32(1 + 0x1p-11)
	for _, c := range []struct {
		a, b []float32
		want float32
	}{
		{nil, []float32{}, 0}, {[]float32{1, 2}, []float32{3, 4}, 11}, {[]float32{1, 2}, []float32{-3, 0.5}, -2},
		{[]float32{0}, []float32{-1}, 0},
		// The product is rounded before it is added.
		{[]float32{-1, x}, []float32{y, x}, 0}, {[]float32{x, -1}, []float32{x, y}, 0},
		{[]float32{-0x1p120, 0x1p120}, []float32{1, 0x1p10}, inf}, {[]float32{-most, 0x1p64}, []float32{1, 0x1p64}, inf},
		{[]float32{least, least}, []float32{0.5, 0.5}, 0}, {[]float32{3 * least}, []float32{0.5}, 2 * least},
		// From left to right.
		{[]float32{0x1p24, 1, 1}, []float32{1, 1, 1}, 0x1p24}, {[]float32{1, 1, 0x1p24}, []float32{1, 1, 1}, 0x1p24 + 2},
		{[]float32{inf}, []float32{0}, nan}, {[]float32{inf, 1}, []float32{1, 1}, inf}, {[]float32{nan}, []float32{0}, nan},
		{repeat(float32(2), 256), repeat(float32(3), 256), 1536},
	} {
		got, ok := impl.DotNumbers(c.a, c.b)
		wantSum(t, fmt.Sprint("DotNumbers ", c.a, c.b), got, ok, c.want)
	}
	for _, c := range []struct{ a, b []float32 }{
		{[]float32{1}, nil}, {nil, []float32{1}}, {[]float32{1, 2}, []float32{1}}, {[]float32{1}, []float32{1, 2}},
		{repeat(float32(1), 257), repeat(float32(1), 257)}, {repeat(float32(1), 257), nil}, {nil, repeat(float32(1), 257)}, {repeat(float32(1), 256), repeat(float32(1), 257)},
	} {
		got, ok := impl.DotNumbers(c.a, c.b)
		wantFailed(t, fmt.Sprintf("DotNumbers of %d and %d", len(c.a), len(c.b)), got, ok)
	}
}

func TestSumComplex(t *testing.T) {
	for _, c := range []struct {
		list []complex64
		want complex64
	}{
		{nil, 0}, {[]complex64{1, complex(2, 3)}, complex(3, 3)},
		{[]complex64{complex(minus0, minus0)}, 0},
		{[]complex64{complex(0x1p24, 1), complex(1, 0x1p24), complex(1, 1)}, complex(0x1p24, 0x1p24)},
		{[]complex64{complex(1, 1), complex(1, 0x1p24), complex(0x1p24, 1)}, complex(0x1p24+2, 0x1p24)},
		{[]complex64{complex(inf, 1), complex(-inf, 2)}, complex(nan, 3)},
		{[]complex64{complex(1, most), complex(2, most)}, complex(3, inf)},
		{repeat(complex64(complex(1, -2)), 256), complex(256, -512)},
	} {
		got, ok := impl.SumComplex(c.list)
		wantComplexSum(t, fmt.Sprint("SumComplex ", c.list), got, ok, c.want)
	}
	got, ok := impl.SumComplex(repeat(complex64(1), 257))
	wantFailed(t, "SumComplex of 257", got, ok)
}

func TestDotsOfComplexNumbers(t *testing.T) {
	x := complex64(complex(1+0x1p-12, 0))
	y := complex64(complex(1+0x1p-11, 0))
	big := complex64(complex(0x1p24, 0))
	for _, c := range []struct {
		a, b                 []complex64
		plain, withConjugate complex64
	}{
		{nil, nil, 0, 0},
		{[]complex64{complex(0, 1)}, []complex64{complex(0, 1)}, -1, 1},
		{[]complex64{complex(1, 2)}, []complex64{complex(3, -1)}, complex(5, 5), complex(1, -7)},
		{[]complex64{complex(1, 2), complex(0, 3)}, []complex64{complex(3, -1), complex(2, 5)}, complex(-10, 11), complex(16, -13)},
		// Each product is narrowed before it is added.
		{[]complex64{-1, x}, []complex64{y, x}, 0, 0},
		// Neither is -0.
		{[]complex64{complex(minus0, 0)}, []complex64{complex(1, 0)}, 0, 0},
		{[]complex64{big, 1, 1}, []complex64{1, 1, 1}, big, big},
		{[]complex64{1, 1, big}, []complex64{1, 1, 1}, big + 2, big + 2},
		{[]complex64{complex(inf, 0)}, []complex64{1}, complex(inf, nan), complex(inf, nan)},
		{repeat(complex64(complex(1, 1)), 256), repeat(complex64(complex(2, 0)), 256), complex(512, 512), complex(512, -512)},
	} {
		got, ok := impl.DotComplex(c.a, c.b)
		wantComplexSum(t, fmt.Sprint("DotComplex ", c.a, c.b), got, ok, c.plain)
		got, ok = impl.DotConjugate(c.a, c.b)
		wantComplexSum(t, fmt.Sprint("DotConjugate ", c.a, c.b), got, ok, c.withConjugate)
	}
	one := []complex64{1}
	many := repeat(complex64(1), 257)
	for _, c := range []struct{ a, b []complex64 }{
		{one, nil}, {nil, one}, {[]complex64{1, 2}, one}, {one, []complex64{1, 2}}, {many, many}, {many, nil}, {nil, many}, {many[:256], many}, {many, many[:256]},
	} {
		what := fmt.Sprintf(" of %d and %d", len(c.a), len(c.b))
		got, ok := impl.DotComplex(c.a, c.b)
		wantFailed(t, "DotComplex"+what, got, ok)
		got, ok = impl.DotConjugate(c.a, c.b)
		wantFailed(t, "DotConjugate"+what, got, ok)
	}
}

func TestPowersOf(t *testing.T) {
	for _, c := range []struct {
		list []complex64
		want float32
	}{
		{nil, 0}, {[]complex64{complex(3, 4), 1}, 26}, {[]complex64{complex(0, -2), complex(-1, 1)}, 6},
		// In 64 bits, and narrowed only in the end.
		{[]complex64{4096, 1, 1}, 0x1p24 + 2}, {[]complex64{complex(4096, 1), 1}, 0x1p24 + 2},
		{repeat(complex64(complex(0x1p-75, 0)), 4), math.Float32frombits(2)},
		{[]complex64{complex(least, 0)}, 0}, {[]complex64{0x1p63, 0x1p63, 0x1p63}, 0x3p126}, {[]complex64{0x1p64}, inf},
		{[]complex64{complex(0, inf)}, inf}, {[]complex64{complex(inf, nan)}, nan}, {[]complex64{complex(minus0, minus0)}, 0},
		{repeat(complex64(complex(1, 2)), 256), 1280},
	} {
		got, ok := impl.PowersOf(c.list)
		wantSum(t, fmt.Sprint("PowersOf ", c.list), got, ok, c.want)
	}
	got, ok := impl.PowersOf(repeat(complex64(1), 257))
	wantFailed(t, "PowersOf of 257", got, ok)
}
