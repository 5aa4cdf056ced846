package tests

import (
	"math"
	"testing"

	"loop.example/g01279/impl"
)

const notANumberBits = 0x7fc00000

var (
	inf     = float32(math.Inf(1))
	minus0  = math.Float32frombits(0x80000000)
	nan     = math.Float32frombits(notANumberBits)
	least   = math.Float32frombits(1)          // the least subnormal number
	most    = float32(math.MaxFloat32)         // the greatest finite number
	normal  = math.Float32frombits(0x00800000) // the least number that is not subnormal
	otherNN = []uint32{0x7f800001, 0x7fbfffff, 0x7fc00001, 0x7fffffff, 0xff800001, 0xffc00000, 0xffffffff}
)

// edges are the numbers at which the program may go wrong.
func edges() []float32 {
	list := []float32{0, minus0, least, -least, normal, -normal, 0.25, 0.5, 0.75, 1, -1, 1.5, 2, -3.5, 200, -200, 201, -201, 0x1p23, 0x1p51, 0x1p52, -0x1p52, most, -most, inf, -inf, nan}
	for _, bits := range otherNN {
		list = append(list, math.Float32frombits(bits))
	}
	return append(list, math.Float32frombits(0x007fffff), math.Float32frombits(0x807fffff))
}

// edgePairs are all complex numbers of edges.
func edgePairs() []complex64 {
	list := []complex64{}
	for _, re := range edges() {
		for _, im := range edges() {
			list = append(list, complex(re, im))
		}
	}
	return list
}

// bitsOf tells a number by its bits, without the program's help.
func bitsOf(x float32) uint32 {
	if x != x {
		return notANumberBits
	}
	return math.Float32bits(x)
}

func wantNumber(t *testing.T, what string, got, want float32) {
	t.Helper()
	if bitsOf(got) != bitsOf(want) {
		t.Errorf("%s: got %08x (%v), want %08x (%v)", what, bitsOf(got), got, bitsOf(want), want)
	}
}

func wantComplex(t *testing.T, what string, got, want complex64) {
	t.Helper()
	if bitsOf(real(got)) != bitsOf(real(want)) || bitsOf(imag(got)) != bitsOf(imag(want)) {
		t.Errorf("%s: got %08x %08x (%v), want %08x %08x (%v)", what, bitsOf(real(got)), bitsOf(imag(got)), got, bitsOf(real(want)), bitsOf(imag(want)), want)
	}
}

func wantSum(t *testing.T, what string, got float32, ok bool, want float32) {
	t.Helper()
	if !ok {
		t.Errorf("%s: failed", what)
	}
	wantNumber(t, what, got, want)
}

func wantComplexSum(t *testing.T, what string, got complex64, ok bool, want complex64) {
	t.Helper()
	if !ok {
		t.Errorf("%s: failed", what)
	}
	wantComplex(t, what, got, want)
}

// wantFailed checks that a function has failed, and returned the zero value beside.
func wantFailed[T comparable](t *testing.T, what string, got T, ok bool) {
	t.Helper()
	var zero T
	if ok || got != zero {
		t.Errorf("%s: got %v %v, want it to fail", what, got, ok)
	}
}

func wantNoList[T any](t *testing.T, what string, got []T, ok bool) {
	t.Helper()
	if ok || len(got) != 0 {
		t.Errorf("%s: got %v %v, want it to fail", what, got, ok)
	}
}

func wantBool(t *testing.T, what string, got, want bool) {
	t.Helper()
	if got != want {
		t.Errorf("%s: got %v, want %v", what, got, want)
	}
}

func wantText(t *testing.T, what, got string, ok bool, want string) {
	t.Helper()
	if !ok || got != want {
		t.Errorf("%s: got %q %v, want %q", what, got, ok, want)
	}
}

func repeat[T any](x T, n int) []T {
	list := make([]T, n)
	for i := range list {
		list[i] = x
	}
	return list
}

// fromBits is FromBits where it must not fail.
func fromBits(t *testing.T, n int64) float32 {
	t.Helper()
	x, ok := impl.FromBits(n)
	if !ok {
		t.Fatalf("FromBits(%d) failed", n)
	}
	return x
}
