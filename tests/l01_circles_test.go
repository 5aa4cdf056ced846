package tests

import (
	"fmt"
	"math"
	"testing"

	"loop.example/g01279/impl"
)

// bitPair has the bits of an argument, and of the result that the document's steps lead to.
type bitPair struct {
	x, want uint32
}

func wantPairs(t *testing.T, what string, f func(float32) float32, pairs []bitPair) {
	t.Helper()
	for _, c := range pairs {
		x := math.Float32frombits(c.x)
		wantNumber(t, fmt.Sprintf("%s(%v)", what, x), f(x), math.Float32frombits(c.want))
	}
}

func TestSineTurns(t *testing.T) {
	wantPairs(t, "SineTurns", impl.SineTurns, []bitPair{
		{0x00000000, 0x00000000}, {0x80000000, 0x80000000}, {0x3e800000, 0x3f800000}, {0xbe800000, 0xbf800000},
		{0x3f000000, 0x80000000}, {0xbf000000, 0x80000000}, {0x3f400000, 0xbf800000}, {0xbf400000, 0x3f800000},
		{0x3f800000, 0x00000000}, {0xbf800000, 0x00000000}, {0x40400000, 0x00000000}, {0xc0400000, 0x00000000},
		{0x3e000000, 0x3f3504f3}, {0xbe000000, 0xbf3504f3}, {0x3dcccccd, 0x3f167918}, {0xbdcccccd, 0xbf167918},
		{0x3e4ccccd, 0x3f737871}, {0x3e7fffff, 0x3f800000}, {0x3e800001, 0x3f800000}, {0x3e99999a, 0x3f737870},
		{0x3effffff, 0x34490fdb}, {0x3f000001, 0xb4c90fdb}, {0x3f19999a, 0xbf16791a}, {0xbf19999a, 0x3f16791a},
		{0x3f7fffff, 0xb4c90fdb}, {0x3f8ccccd, 0x3f16791a}, {0xbf8ccccd, 0xbf16791a}, {0x414570a4, 0x3f5825d7},
		{0xc14570a4, 0xbf5825d7}, {0x42c86666, 0x3f73780d}, {0x4640e6b6, 0xbf660f88}, {0xc640e6b6, 0x3f660f88},
		{0x4affffff, 0x80000000}, {0xcaffffff, 0x80000000}, {0x4a7fffff, 0xbf800000}, {0x2edbe6ff, 0x302cb5fd},
		{0xaedbe6ff, 0xb02cb5fd}, {0x9e3ce508, 0x80000000}, {0x00000001, 0x00000006}, {0x80000001, 0x80000000},
		{0x006ce3ee, 0x01ab0b68}, {0x806ce3ee, 0x80000000}, {0x4b000000, 0x00000000}, {0xcb000000, 0x00000000},
		{0x59000000, 0x00000000}, {0xd9000000, 0x00000000}, {0x59800000, 0x00000000}, {0xd9800000, 0x00000000},
		{0x7f7fffff, 0x00000000}, {0xff7fffff, 0x00000000},
		{0x7f800000, notANumberBits}, {0xff800000, notANumberBits}, {0x7fc00000, notANumberBits}, {0xff800001, notANumberBits},
	})
	// Here the last bit differs if the series has fewer terms.
	wantPairs(t, "SineTurns", impl.SineTurns, []bitPair{
		{0x3e434f37, 0x3f6e7421}, {0x3e5d0d36, 0x3f7a22f0},
	})
	for i := -3000; i <= 3000; i++ {
		x := float32(i) / 997
		got := float64(impl.SineTurns(x))
		if math.Abs(got-math.Sin(2*math.Pi*float64(x))) > 1e-7 {
			t.Errorf("SineTurns(%v): got %v", x, got)
		}
	}
}

func TestPhasorOf(t *testing.T) {
	for _, c := range []struct {
		turns  float64
		re, im uint32
	}{
		{0.25, 0x00000000, 0x3f800000}, {-0.25, 0x00000000, 0xbf800000}, {0.5, 0xbf800000, 0x00000000},
		{-0.5, 0xbf800000, 0x00000000}, {0.75, 0x00000000, 0xbf800000}, {-0.75, 0x00000000, 0x3f800000},
		{1.0, 0x3f800000, 0x00000000}, {-1.0, 0x3f800000, 0x00000000}, {2.25, 0x00000000, 0x3f800000},
		{-2.25, 0x00000000, 0xbf800000}, {0.125, 0x3f3504f3, 0x3f3504f3}, {0.375, 0xbf3504f3, 0x3f3504f3},
		{0.625, 0xbf3504f3, 0xbf3504f3}, {0.875, 0x3f3504f3, 0xbf3504f3}, {-0.125, 0x3f3504f3, 0xbf3504f3},
		{0.1, 0x3f4f1bbd, 0x3f167918}, {0.3, 0xbe9e377a, 0x3f737871}, {0.6, 0xbf4f1bbd, 0xbf167918},
		{0.9, 0x3f4f1bbd, 0xbf167918}, {-0.1, 0x3f4f1bbd, 0xbf167918}, {0.3333333333333333, 0xbf000000, 0x3f5db3d7},
		{-0.3333333333333333, 0xbf000000, 0xbf5db3d7}, {123456.789, 0x3e786bef, 0xbf785a37}, {-123456.789, 0x3e786bef, 0x3f785a37},
		{1e-300, 0x3f800000, 0x00000000}, {-1e-300, 0x3f800000, 0x00000000}, {5e-324, 0x3f800000, 0x00000000},
		{-5e-324, 0x3f800000, 0x00000000}, {1e-17, 0x3f800000, 0x2490e161}, {-1e-17, 0x3f800000, 0x00000000},
		{4503599627370495.5, 0xbf800000, 0x00000000}, {-4503599627370495.5, 0xbf800000, 0x00000000}, {2251799813685248.5, 0xbf800000, 0x00000000},
		{4503599627370496.0, 0x3f800000, 0x00000000}, {-4503599627370496.0, 0x3f800000, 0x00000000}, {1e+300, 0x3f800000, 0x00000000},
		{-1e+300, 0x3f800000, 0x00000000}, {0.24999999999999997, 0x25490fdb, 0x3f800000}, {0.49999999999999994, 0xbf800000, 0x25c90fdb},
		{0.9999999999999999, 0x3f800000, 0xa6490fdb},
		{0, 0x3f800000, 0}, {math.Copysign(0, -1), 0x3f800000, 0x80000000},
		{math.Inf(1), notANumberBits, notANumberBits}, {math.Inf(-1), notANumberBits, notANumberBits}, {math.NaN(), notANumberBits, notANumberBits},
	} {
		want := complex(math.Float32frombits(c.re), math.Float32frombits(c.im))
		wantComplex(t, fmt.Sprintf("PhasorOf(%v)", c.turns), impl.PhasorOf(c.turns), want)
	}
	for i := -3000; i <= 3000; i++ {
		turns := float64(i) / 997
		got := impl.PhasorOf(turns)
		if math.Abs(float64(real(got))-math.Cos(2*math.Pi*turns)) > 1e-7 || math.Abs(float64(imag(got))-math.Sin(2*math.Pi*turns)) > 1e-7 {
			t.Errorf("PhasorOf(%v): got %v", turns, got)
		}
	}
}

func TestAngles(t *testing.T) {
	for _, c := range []struct{ y, x, want uint32 }{
		{0x00000000, 0x3f800000, 0x00000000}, {0x80000000, 0x3f800000, 0x00000000}, {0x00000000, 0xbf800000, 0x3f000000},
		{0x80000000, 0xbf800000, 0x3f000000}, {0x3f800000, 0x00000000, 0x3e800000}, {0xbf800000, 0x00000000, 0xbe800000},
		{0x3f800000, 0x80000000, 0x3e800000}, {0xbf800000, 0x80000000, 0xbe800000}, {0x3f800000, 0x3f800000, 0x3e000000},
		{0x3f800000, 0xbf800000, 0x3ec00000}, {0xbf800000, 0x3f800000, 0xbe000000}, {0xbf800000, 0xbf800000, 0xbec00000},
		{0x3f800000, 0x40000000, 0x3d972029}, {0x40000000, 0x3f800000, 0x3e346fec}, {0xc0000000, 0x3f800000, 0xbe346fec},
		{0x40000000, 0xbf800000, 0x3ea5c80a}, {0xc0000000, 0xbf800000, 0xbea5c80a}, {0x40400000, 0x40800000, 0x3dd1bfae},
		{0x40800000, 0x40400000, 0x3e172029}, {0x3dcccccd, 0x3f333333, 0x3cb90148}, {0x3f333333, 0x3dcccccd, 0x3e68dfd7},
		{0x00000001, 0x3f800000, 0x00000000}, {0x3f800000, 0x00000001, 0x3e800000}, {0x00000001, 0x7f7fffff, 0x00000000},
		{0x00000001, 0x00000001, 0x3e000000}, {0x80000001, 0x80000001, 0xbec00000}, {0x7f7fffff, 0x00000001, 0x3e800000},
		{0x7f7fffff, 0x7f7fffff, 0x3e000000}, {0xff7fffff, 0x3f800000, 0xbe800000}, {0x1e3ce508, 0xbf800000, 0x3f000000},
		{0x9e3ce508, 0xbf800000, 0xbf000000}, {0x40a00000, 0x41400000, 0x3d80ae91}, {0x3ed413cd, 0x3f800000, 0x3d800000},
		// Here the last bit differs if the tangent is not halved three times.
		{0x3f7f97de, 0x3f800000, 0x3dffbda8}, {0x3f78527e, 0x3f800000, 0x3dfb09c5},
		{0, 0, 0}, {0x80000000, 0, 0}, {0, 0x80000000, 0}, {0x80000000, 0x80000000, 0},
	} {
		y, x, want := math.Float32frombits(c.y), math.Float32frombits(c.x), math.Float32frombits(c.want)
		wantNumber(t, fmt.Sprintf("AngleTurns(%v, %v)", y, x), impl.AngleTurns(y, x), want)
		wantNumber(t, fmt.Sprintf("AngleOf(%v + %v i)", x, y), impl.AngleOf(complex(x, y)), want)
	}
	for _, bad := range []float32{inf, -inf, nan} {
		for _, other := range []float32{0, 1, -1, inf, nan} {
			wantNumber(t, fmt.Sprintf("AngleTurns(%v, %v)", bad, other), impl.AngleTurns(bad, other), nan)
			wantNumber(t, fmt.Sprintf("AngleTurns(%v, %v)", other, bad), impl.AngleTurns(other, bad), nan)
			wantNumber(t, fmt.Sprintf("AngleOf(%v + %v i)", bad, other), impl.AngleOf(complex(bad, other)), nan)
		}
	}
	for y := float32(-9.5); y < 10; y++ {
		for x := float32(-9.25); x < 10; x++ {
			got := float64(impl.AngleTurns(y, x))
			if math.Abs(got-math.Atan2(float64(y), float64(x))/(2*math.Pi)) > 3e-8 {
				t.Errorf("AngleTurns(%v, %v): got %v", y, x, got)
			}
		}
	}
}

func TestLogNumber(t *testing.T) {
	wantPairs(t, "LogNumber", impl.LogNumber, []bitPair{
		{0x3f800000, 0x00000000}, {0x40000000, 0x3f317218}, {0x3f000000, 0xbf317218}, {0x3f400000, 0xbe934b11},
		{0x3f3fffff, 0xbe934b13}, {0x3fc00000, 0x3ecf991f}, {0x3fbfffff, 0x3ecf991d}, {0x41200000, 0x40135d8e},
		{0x3dcccccd, 0xc0135d8e}, {0x40400000, 0x3f8c9f54}, {0x402df854, 0x3f7fffff}, {0x42c80000, 0x40935d8e},
		{0x3a83126f, 0xc0dd0c55}, {0x4640e6b6, 0x4116bcab}, {0x3f800001, 0x33ffffff}, {0x3f7fffff, 0xb3800000},
		{0x00000001, 0xc2ce8ed0}, {0x007fffff, 0xc2aeac50}, {0x00800000, 0xc2aeac50}, {0x7f7fffff, 0x42b17218},
		{0x501502f9, 0x41b834f1}, {0x80000000, 0xff800000}, {0x00000000, 0xff800000}, {0x7f800000, 0x7f800000},
		{0xff800000, 0x7fc00000}, {0xbf800000, 0x7fc00000}, {0x80000001, 0x7fc00000}, {0x7fc00000, 0x7fc00000},
	})
	// Here the last bit differs if a product and a sum are joined into one operation.
	wantPairs(t, "LogNumber", impl.LogNumber, []bitPair{
		{0x41178feb, 0x400fe5e7}, {0x3c413d3a, 0xc08e158f},
	})
	// And here, if the number is brought to other limits than 0.75 and 1.5.
	wantPairs(t, "LogNumber", impl.LogNumber, []bitPair{
		{0x3f7cd74a, 0xbc4b6f7e}, {0x3f7e36c7, 0xbbe5699b},
	})
	for x := float32(1e-37); x < 1e37; x *= 1.37 {
		got := float64(impl.LogNumber(x))
		if math.Abs(got-math.Log(float64(x))) > 4e-6 {
			t.Errorf("LogNumber(%v): got %v", x, got)
		}
	}
}

func TestExpNumber(t *testing.T) {
	wantPairs(t, "ExpNumber", impl.ExpNumber, []bitPair{
		{0x00000000, 0x3f800000}, {0x80000000, 0x3f800000}, {0x3f800000, 0x402df854}, {0xbf800000, 0x3ebc5ab2},
		{0x3f000000, 0x3fd3094c}, {0xbf000000, 0x3f1b4598}, {0x40000000, 0x40ec7326}, {0x41200000, 0x46ac14ee},
		{0xc1200000, 0x383e6bce}, {0x2edbe6ff, 0x3f800000}, {0xaedbe6ff, 0x3f800000}, {0x00000001, 0x3f800000},
		{0x3dcccccd, 0x3f8d763e}, {0xbdcccccd, 0x3f67a36d}, {0x42480000, 0x638c881f}, {0xc2480000, 0x1b692beb},
		{0x42b17217, 0x7f7fff84}, {0x42b17218, 0x7f800000}, {0x42b1999a, 0x7f800000}, {0xc2aeac4f, 0x00800026},
		{0xc2aecccd, 0x00782140}, {0xc2c80000, 0x0000001b}, {0xc2cfcccd, 0x00000001}, {0xc2cff0a4, 0x00000001},
		{0xc2cff5c3, 0x00000000}, {0xc2d00000, 0x00000000}, {0x4347fd71, 0x7f800000}, {0x43480000, 0x7f800000},
		{0x43480001, 0x7f800000}, {0x43490000, 0x7f800000}, {0xc3480000, 0x00000000}, {0xc3480001, 0x00000000},
		{0xc3490000, 0x00000000}, {0x3f317218, 0x40000000}, {0xbf317218, 0x3f000000}, {0x41a40000, 0x4e3eb628},
		{0x7f800000, 0x7f800000}, {0xff800000, 0x00000000}, {0x7fc00000, 0x7fc00000}, {0x7f7fffff, 0x7f800000},
		{0xff7fffff, 0x00000000},
	})
	// Here the last bit differs if the series has fewer or more terms, or fewer or more squares are made.
	wantPairs(t, "ExpNumber", impl.ExpNumber, []bitPair{
		{0x42b170a7, 0x7f7f47c7}, {0x42b16f9a, 0x7f7ec1cb}, {0x42b15b16, 0x7f74c035}, {0x42b0f783, 0x7f497e78},
		{0xc2ac0052, 0x01736c63}, {0x429675e7, 0x75b96184}, {0x4283070f, 0x6eb71737}, {0xc1963bdb, 0x31f01195},
	})
	for x := float32(-80); x < 80; x += 0.37 {
		got := float64(impl.ExpNumber(x))
		if math.Abs(got/math.Exp(float64(x))-1) > 1e-7 {
			t.Errorf("ExpNumber(%v): got %v", x, got)
		}
	}
}

func TestTenthsOf(t *testing.T) {
	for _, c := range []struct {
		power uint32
		want  int64
	}{
		{0x3f800000, 0}, {0x41200000, 100}, {0x3dcccccd, -100}, {0x42c80000, 200}, {0x40000000, 30},
		{0x3f000000, -30}, {0x3a83126f, -300}, {0x3f400000, -12}, {0x3f3fffff, -12}, {0x3fc00000, 18},
		{0x3fbfffff, 18}, {0x4640e6b6, 409}, {0x00000001, -4485}, {0x007fffff, -3793}, {0x00800000, -3793},
		{0x7f7fffff, 3853}, {0x3f774f1c, -2}, {0x3f774f1d, -1}, {0x3f7d11d0, -1}, {0x3f7d11d1, 0},
		{0x3f817b6f, 0}, {0x3f817b70, 1}, {0x3f847f89, 1}, {0x3f847f8a, 2}, {0x411e2b22, 99},
		{0x411e2b23, 100}, {0x3dcf2be5, -100}, {0x3dcf2be6, -99}, {0x3dca74a7, -101}, {0x3dca74a8, -100},
		{0x45dab35c, 384}, {0x45dab35d, 385}, {0x38cf508a, -401}, {0x38cf508b, -400},
	} {
		power := math.Float32frombits(c.power)
		got, ok := impl.TenthsOf(power)
		if !ok || got != c.want {
			t.Errorf("TenthsOf(%v): got %d %v, want %d", power, got, ok, c.want)
		}
	}
	for _, power := range []float32{0, minus0, -1, -least, -most, inf, -inf, nan} {
		got, ok := impl.TenthsOf(power)
		wantFailed(t, fmt.Sprint("TenthsOf ", power), got, ok)
	}
}
