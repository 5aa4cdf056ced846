package tests

import (
	"fmt"
	"math"
	"testing"

	"loop.example/g01279/impl"
)

func TestSameNumber(t *testing.T) {
	for i, a := range edges() {
		for j, b := range edges() {
			want := bitsOf(a) == bitsOf(b)
			wantBool(t, fmt.Sprintf("SameNumber of edges %d and %d (%v, %v)", i, j, a, b), impl.SameNumber(a, b), want)
		}
	}
	wantBool(t, "zeros", impl.SameNumber(0, minus0), false)
	wantBool(t, "minus zeros", impl.SameNumber(minus0, minus0), true)
	wantBool(t, "not-a-numbers", impl.SameNumber(nan, math.Float32frombits(0xff800001)), true)
	wantBool(t, "a not-a-number and 1", impl.SameNumber(nan, 1), false)
	wantBool(t, "neighbours", impl.SameNumber(1, math.Float32frombits(0x3f800001)), false)
	wantBool(t, "infinities", impl.SameNumber(inf, -inf), false)
	wantBool(t, "a subnormal number and 0", impl.SameNumber(least, 0), false)
}

func TestSameComplex(t *testing.T) {
	wantBool(t, "equal", impl.SameComplex(complex(1, -2), complex(1, -2)), true)
	wantBool(t, "other real part", impl.SameComplex(complex(1, 2), complex(3, 2)), false)
	wantBool(t, "other imaginary part", impl.SameComplex(complex(1, 2), complex(1, 3)), false)
	wantBool(t, "exchanged parts", impl.SameComplex(complex(1, 2), complex(2, 1)), false)
	wantBool(t, "not-a-numbers", impl.SameComplex(complex(nan, 1), complex(math.Float32frombits(0xffffffff), 1)), true)
	wantBool(t, "imaginary not-a-numbers", impl.SameComplex(complex(1, nan), complex(1, math.Float32frombits(0x7f800001))), true)
	wantBool(t, "a zero with a sign", impl.SameComplex(complex(0, 1), complex(minus0, 1)), false)
	wantBool(t, "an imaginary zero with a sign", impl.SameComplex(complex(1, 0), complex(1, minus0)), false)
}

func TestIsFinite(t *testing.T) {
	for _, x := range []float32{0, minus0, 1, -1, least, -least, normal, most, -most} {
		wantBool(t, fmt.Sprint("IsFinite ", x), impl.IsFinite(x), true)
		wantBool(t, fmt.Sprint("IsFiniteComplex of twice ", x), impl.IsFiniteComplex(complex(x, x)), true)
	}
	bad := []float32{inf, -inf, nan}
	for _, bits := range otherNN {
		bad = append(bad, math.Float32frombits(bits))
	}
	for _, x := range bad {
		wantBool(t, fmt.Sprint("IsFinite ", x), impl.IsFinite(x), false)
		wantBool(t, fmt.Sprint("IsFiniteComplex with real ", x), impl.IsFiniteComplex(complex(x, 1)), false)
		wantBool(t, fmt.Sprint("IsFiniteComplex with imaginary ", x), impl.IsFiniteComplex(complex(1, x)), false)
	}
}

func TestBitsOf(t *testing.T) {
	for _, c := range []struct {
		x    float32
		want int64
	}{
		{0, 0}, {minus0, 2147483648}, {1, 1065353216}, {-1, 3212836864}, {least, 1}, {-least, 2147483649},
		{normal, 8388608}, {most, 2139095039}, {inf, 2139095040}, {-inf, 4286578688}, {nan, 2143289344},
	} {
		if got := impl.BitsOf(c.x); got != c.want {
			t.Errorf("BitsOf(%v): got %d, want %d", c.x, got, c.want)
		}
	}
	for _, bits := range otherNN {
		if got := impl.BitsOf(math.Float32frombits(bits)); got != 2143289344 {
			t.Errorf("BitsOf of the not-a-number %08x: got %d", bits, got)
		}
	}
}

func TestFromBits(t *testing.T) {
	for bits := int64(0); bits <= math.MaxUint32; bits += 65519 {
		x := fromBits(t, bits)
		want := math.Float32frombits(uint32(bits))
		wantNumber(t, fmt.Sprintf("FromBits(%08x)", bits), x, want)
		if got := impl.BitsOf(x); got != int64(bitsOf(want)) {
			t.Errorf("BitsOf of FromBits(%08x): got %08x", bits, got)
		}
	}
	wantNumber(t, "no bits", fromBits(t, 0), 0)
	wantNumber(t, "the sign", fromBits(t, 2147483648), minus0)
	wantNumber(t, "all bits", fromBits(t, 4294967295), nan)
	wantNumber(t, "a not-a-number", fromBits(t, 2139095041), nan)
	for _, bits := range []int64{-1, 4294967296, math.MaxInt64, math.MinInt64, 4294967296 + 1065353216} {
		x, ok := impl.FromBits(bits)
		wantFailed(t, fmt.Sprint("FromBits ", bits), x, ok)
	}
}

func TestNarrow(t *testing.T) {
	for _, c := range []struct {
		x    float64
		want uint32
	}{
		{0, 0}, {math.Copysign(0, -1), 0x80000000}, {0.5, 0x3f000000}, {0.1, 0x3dcccccd}, {-0.1, 0xbdcccccd},
		{1 + 0x1p-24, 0x3f800000}, {1 + 0x1p-24 + 0x1p-52, 0x3f800001}, {1 + 0x3p-24, 0x3f800002}, {1 + 0x3p-24 - 0x1p-52, 0x3f800001},
		{0x1p-149, 1}, {0x1p-150, 0}, {0x1.0000000000001p-150, 1}, {-0x1p-150, 0x80000000}, {0x3p-150, 2}, {0x1p-200, 0}, {-5e-324, 0x80000000},
		{0x1.fffffep127, 0x7f7fffff}, {0x1.fffffefffffffp127, 0x7f7fffff}, {0x1.ffffffp127, 0x7f800000}, {-0x1.ffffffp127, 0xff800000}, {1e300, 0x7f800000},
		{math.Inf(1), 0x7f800000}, {math.Inf(-1), 0xff800000}, {math.NaN(), notANumberBits},
	} {
		want := math.Float32frombits(c.want)
		wantNumber(t, fmt.Sprint("NarrowNumber ", c.x), impl.NarrowNumber(c.x), want)
		wantComplex(t, fmt.Sprint("NarrowComplex with real ", c.x), impl.NarrowComplex(complex(c.x, 0.1)), complex(want, 0.1))
		wantComplex(t, fmt.Sprint("NarrowComplex with imaginary ", c.x), impl.NarrowComplex(complex(-2, c.x)), complex(-2, want))
	}
}

func TestSubnormal(t *testing.T) {
	for _, bits := range []uint32{1, 2, 0x00400000, 0x007fffff} {
		x := math.Float32frombits(bits)
		wantBool(t, fmt.Sprintf("IsSubnormal %08x", bits), impl.IsSubnormal(x), true)
		wantBool(t, fmt.Sprintf("IsSubnormal -%08x", bits), impl.IsSubnormal(-x), true)
		wantNumber(t, fmt.Sprintf("FlushNumber %08x", bits), impl.FlushNumber(x), 0)
		wantNumber(t, fmt.Sprintf("FlushNumber -%08x", bits), impl.FlushNumber(-x), minus0)
	}
	for _, x := range []float32{0, minus0, normal, -normal, 1, -1, 0.5, most, -most, inf, -inf, nan} {
		wantBool(t, fmt.Sprint("IsSubnormal ", x), impl.IsSubnormal(x), false)
		wantNumber(t, fmt.Sprint("FlushNumber ", x), impl.FlushNumber(x), x)
	}
}
