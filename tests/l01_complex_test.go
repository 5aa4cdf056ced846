package tests

import (
	"fmt"
	"math"
	"testing"

	"loop.example/g01279/impl"
)

func TestProductsOfSmallIntegersAreExact(t *testing.T) {
	for a := -9; a <= 9; a += 2 {
		for b := -8; b <= 8; b++ {
			for c := -7; c <= 7; c++ {
				for d := -9; d <= 9; d += 3 {
					x, y := complex(float32(a), float32(b)), complex(float32(c), float32(d))
					got := impl.MulComplex(x, y)
					if real(got) != float32(a*c-b*d) || imag(got) != float32(a*d+b*c) {
						t.Fatalf("MulComplex(%v, %v): got %v", x, y, got)
					}
				}
			}
		}
	}
	wantComplex(t, "4095 times 4096", impl.MulComplex(complex(4095, 0), complex(0, 4096)), complex(0, 16773120))
}

func TestMulComplex(t *testing.T) {
	step := float32(0x1p-23)
	for _, c := range []struct{ x, y, want complex64 }{
		{complex(1, 2), complex(3, -1), complex(5, 5)},
		{complex(0, 1), complex(0, 1), complex(-1, 0)},
		// The products are exact before they are taken away from each other.
		{complex(1+step, 1), complex(1+step, 1+2*step), complex(0x1p-46, 2+4*step)},
		// The difference is rounded to 64 bits before it is narrowed: 1 + 2^-24 + 2^-60 is no more than a tie.
		{complex(0x6161p-12, 0x1p-30), complex(0x2a1p-12, -0x1p-30), complex(1, float32(-0x6161p-42+0x2a1p-42))},
		// Signs of zeros: a c - b d and a d + b c.
		{complex(0, 0), complex(0, 0), complex(0, 0)},
		{complex(minus0, 0), complex(1, 0), complex(minus0, 0)},
		{complex(minus0, minus0), complex(1, 0), complex(0, minus0)},
		{complex(1, 0), complex(minus0, minus0), complex(0, minus0)},
		// Subnormal numbers, and ones that are rounded to zeros.
		{complex(least, 0), complex(1, 0), complex(least, 0)},
		{complex(least, 0), complex(0.5, 0), complex(0, 0)},
		{complex(-least, 0), complex(0.5, 0), complex(minus0, 0)},
		{complex(3*least, 0), complex(0.5, 0), complex(2*least, 0)},
		// Squares that would be infinite in 32 bits cancel here.
		{complex(0x1p100, 0x1p100), complex(0x1p100, 0x1p100), complex(0, inf)},
		{complex(most, 0), complex(2, 0), complex(inf, 0)},
		{complex(inf, 0), complex(1, 1), complex(inf, inf)},
		{complex(inf, 1), complex(1, 0), complex(inf, nan)},
		{complex(inf, inf), complex(1, 1), complex(nan, inf)},
		{complex(nan, 0), complex(1, 0), complex(nan, nan)},
	} {
		wantComplex(t, fmt.Sprintf("MulComplex(%v, %v)", c.x, c.y), impl.MulComplex(c.x, c.y), c.want)
	}
}

func TestScaleComplex(t *testing.T) {
	third := float32(1) / 3
	for _, c := range []struct {
		x    complex64
		by   float32
		want complex64
	}{
		{complex(1, 2), 0.5, complex(0.5, 1)},
		{complex(3, -4), -2, complex(-6, 8)},
		{complex(third, 0.1), 0.7, complex(math.Float32frombits(0x3e6eeeef), math.Float32frombits(0x3d8f5c29))},
		{complex(0, minus0), -1, complex(minus0, 0)},
		{complex(least, -least), 0.5, complex(0, minus0)},
		{complex(most, 1), 2, complex(inf, 2)},
		{complex(inf, 0), 0, complex(nan, 0)},
		{complex(1, 0), inf, complex(inf, nan)},
		{complex(1, 2), nan, complex(nan, nan)},
	} {
		wantComplex(t, fmt.Sprintf("ScaleComplex(%v, %v)", c.x, c.by), impl.ScaleComplex(c.x, c.by), c.want)
	}
}

func TestConjugateOf(t *testing.T) {
	for _, c := range []struct{ x, want complex64 }{
		{complex(1, 2), complex(1, -2)},
		{complex(-1, -2), complex(-1, 2)},
		{complex(minus0, 0), complex(minus0, minus0)},
		{complex(0, minus0), complex(0, 0)},
		{complex(inf, -inf), complex(inf, inf)},
		{complex(nan, least), complex(nan, -least)},
		{complex(1, nan), complex(1, nan)},
	} {
		wantComplex(t, fmt.Sprintf("ConjugateOf(%v)", c.x), impl.ConjugateOf(c.x), c.want)
	}
}

func TestPowerAndLong(t *testing.T) {
	for _, c := range []struct {
		x           complex64
		power, long float32
	}{
		{complex(3, 4), 25, 5},
		{complex(-3, -4), 25, 5},
		{complex(1, 2), 5, math.Float32frombits(0x400f1bbd)},
		{complex(minus0, 0), 0, 0},
		{complex(1+0x1p-23, 0), 1 + 0x1p-22, 1 + 0x1p-23},
		// In 32 bits, 2^24 would swallow each of both.
		{complex(4096, 1), 16777216, 4096},
		// The root is that of the 64-bit power, not that of the narrowed one, which is not that of 32-bit squares.
		{complex(0.1, 0.3), math.Float32frombits(0x3dccccce), math.Float32frombits(0x3ea1e89b)},
		// The 64-bit power is neither infinite nor zero.
		{complex(0x1p100, 0), inf, 0x1p100},
		{complex(3e38, 0), inf, 3e38},
		{complex(3e38, 3e38), inf, inf},
		{complex(least, 0), 0, least},
		{complex(0, -least), 0, least},
		{complex(0x1p-75, 0), 0, 0x1p-75},
		{complex(inf, 1), inf, inf},
		{complex(1, -inf), inf, inf},
		{complex(inf, nan), nan, nan},
		{complex(nan, 1), nan, nan},
	} {
		wantNumber(t, fmt.Sprintf("PowerOf(%v)", c.x), impl.PowerOf(c.x), c.power)
		wantNumber(t, fmt.Sprintf("LongOf(%v)", c.x), impl.LongOf(c.x), c.long)
	}
}

func TestQuotientOf(t *testing.T) {
	for _, c := range []struct{ x, y, want complex64 }{
		{complex(0, 4), complex(2, 0), complex(0, 2)},
		{complex(5, 5), complex(3, -1), complex(1, 2)},
		{complex(1, 0), complex(0, 1), complex(0, -1)},
		{complex(1, 0), complex(3, 0), complex(math.Float32frombits(0x3eaaaaab), 0)},
		{complex(1, minus0), complex(1, 0), complex(1, minus0)},
		{complex(1, 0), complex(1, 0), complex(1, 0)},
		{complex(1, 2), complex(1, 2), complex(1, 0)},
		{complex(1, 0), complex(3, 7), complex(math.Float32frombits(0x3d53dcb1), math.Float32frombits(0xbdf72c23))},
		// Parts whose squares are no 32-bit numbers.
		{complex(0x1p100, 0), complex(0x1p100, 0), complex(1, 0)},
		{complex(least, least), complex(least, 0), complex(1, 1)},
		{complex(most, 0), complex(least, 0), complex(inf, 0)},
		{complex(1, 0), complex(0, 0), complex(nan, nan)},
		{complex(0, 0), complex(0, 0), complex(nan, nan)},
		{complex(inf, 1), complex(0, 0), complex(nan, nan)},
		{complex(1, 1), complex(minus0, minus0), complex(nan, nan)},
		{complex(1, 0), complex(inf, 0), complex(nan, nan)},
		{complex(nan, 0), complex(1, 0), complex(nan, nan)},
		{complex(inf, 0), complex(1, 1), complex(inf, -inf)},
	} {
		wantComplex(t, fmt.Sprintf("QuotientOf(%v, %v)", c.x, c.y), impl.QuotientOf(c.x, c.y), c.want)
	}
}

func TestRootNumber(t *testing.T) {
	for _, c := range []struct{ x, want float32 }{
		{9, 3}, {2, math.Float32frombits(0x3fb504f3)}, {0.25, 0.5}, {0, 0}, {minus0, minus0}, {1, 1},
		{least, math.Float32frombits(0x1a3504f3)}, {-least, nan}, {-1, nan}, {-most, nan}, {most, math.Float32frombits(0x5f7fffff)},
		{inf, inf}, {-inf, nan}, {nan, nan},
	} {
		wantNumber(t, fmt.Sprintf("RootNumber(%v)", c.x), impl.RootNumber(c.x), c.want)
	}
}
