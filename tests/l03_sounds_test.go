package tests

import (
	"fmt"
	"math"
	"strings"
	"testing"

	"loop.example/g01279/impl"
)

func TestIsSound(t *testing.T) {
	for _, sound := range [][]float32{nil, {}, {0}, {minus0, most, -most, least}, repeat(float32(1), 255), repeat(float32(1), 256)} {
		wantBool(t, fmt.Sprint("IsSound ", sound), impl.IsSound(sound), true)
	}
	for _, bad := range badSounds() {
		wantBool(t, fmt.Sprint("IsSound ", bad), impl.IsSound(bad), false)
	}
}

func TestMixSounds(t *testing.T) {
	for _, c := range []struct{ a, b, x, y, want string }{
		{"", "", "3f800000", "40000000", ""}, {"3f800000,40000000", "40400000,40800000", "40000000", "3f800000", "40a00000,41000000"}, {"3f800000", "40400000", "00000000", "80000000", "00000000"},
		{"80000000", "80000000", "3f800000", "3f800000", "80000000"}, {"80000000", "00000000", "3f800000", "3f800000", "00000000"}, {"7f7fffff", "7f7fffff", "3f000000", "3f000000", "7f7fffff"},
		{"7f7fffff", "ff7fffff", "3f800000", "3f800000", "00000000"},
		// Here a last bit differs if a product is not rounded before it is added.
		{"3fe1d14b", "bf96833f", "3f73f794", "3f40ae86", "3f4bd606"}, {"3f03956f,c02504f4", "beda4698,3e038971", "3fcf490f", "3fe7c4fa", "3d7791e0,c07c596b"}, {"40359cab", "3fe42240", "bfb456f4", "3fa3ea29", "bfdb9a6a"},
	} {
		got, ok := impl.MixSounds(told(c.a), told(c.b), toldNumber(c.x), toldNumber(c.y))
		wantNumbers(t, fmt.Sprint("MixSounds ", c), got, ok, c.want)
	}
	got, ok := impl.MixSounds(repeat(float32(2), 256), repeat(float32(3), 256), 0.5, 2)
	wantNumbers(t, "MixSounds of 256 numbers", got, ok, strings.Repeat("40e00000,", 255)+"40e00000")
}

func TestMixSoundsFails(t *testing.T) {
	for _, bad := range badSounds() {
		good := repeat(float32(1), len(bad))
		got, ok := impl.MixSounds(bad, good, 0, 0)
		wantNoList(t, fmt.Sprint("MixSounds ", bad), got, ok)
		got, ok = impl.MixSounds(good, bad, 0, 0)
		wantNoList(t, fmt.Sprint("MixSounds with ", bad), got, ok)
	}
	for _, pair := range [][2][]float32{{{1}, nil}, {nil, {1}}, {{1, 2}, {1}}, {{1}, {1, 2}}, {repeat(float32(1), 256), repeat(float32(1), 255)}} {
		got, ok := impl.MixSounds(pair[0], pair[1], 1, 1)
		wantNoList(t, fmt.Sprint("MixSounds ", pair), got, ok)
	}
	for _, bad := range badNumbers() {
		for _, sound := range [][]float32{nil, {0}, {1, 2}} {
			got, ok := impl.MixSounds(sound, sound, bad, 1)
			wantNoList(t, fmt.Sprint("MixSounds with x ", bad, sound), got, ok)
			got, ok = impl.MixSounds(sound, sound, 1, bad)
			wantNoList(t, fmt.Sprint("MixSounds with y ", bad, sound), got, ok)
		}
	}
	// A product, or the sum, is infinite, or not a number.
	for _, c := range [][4]float32{{most, 0, 2, 0}, {0, -most, 0, 2}, {most, most, 1, 1}, {most, -most, 2, 2}} {
		got, ok := impl.MixSounds([]float32{0, c[0]}, []float32{0, c[1]}, c[2], c[3])
		wantNoList(t, fmt.Sprint("MixSounds ", c), got, ok)
	}
}

func TestLoudOf(t *testing.T) {
	for _, c := range [][2]string{
		{"40400000,40400000", "40400000"}, {"00000000", "00000000"}, {"80000000", "00000000"}, {"c0000000", "40000000"}, {"0da24260", "00000000"}, {"1af1c901,1af1c901", "1aef7751"}, {"5f0ac723", "5f0ac723"},
		{"5f7fffff", "5f7fffff"}, {"5f268890,5f4249fe", "5f34f1b8"},
		// Here a last bit differs if an operation is not rounded on its own, or the sum goes in another order.
		{"bf1441a6,3fbf05b3,3dae6a3d", "3f6cef21"}, {"401d1be2,4010c40e,3ede015e,400d7d2c", "4000dea3"}, {"bfb85334,bcbed3e0,c034a790,3fc50898,40259bfa", "3ffa38fe"}, {"3fd4f994,c01da094,401262ff", "400a9504"},
		{"3f892f8a,c030e697,3f89d174,3f979bb1,402c72d1,3fa79063,3f085ebd,c026cefe", "3fece53a"}, {"402fb227,bf164176,4024d9d2,c037818a,4006a631,3ffd2208,bfe3e7a3,402c46cf,c0339ca3", "4015e3fc"},
		{"bf8c2f5a,bf5cc9b5,bf968ddd,bfed588d,bd8274d0,c00ad208,c00124eb,bff9c53d", "3fc71676"},
	} {
		got, ok := impl.LoudOf(told(c[0]))
		wantSum(t, fmt.Sprint("LoudOf ", c), got, ok, toldNumber(c[1]))
	}
	got, ok := impl.LoudOf(repeat(float32(0.1), 256))
	wantSum(t, "LoudOf 256 numbers", got, ok, toldNumber("3dccccc8"))
	for _, bad := range append(badSounds(), nil, []float32{}) {
		got, ok := impl.LoudOf(bad)
		wantFailed(t, fmt.Sprint("LoudOf ", bad), got, ok)
	}
	// A square, or the sum, is infinite.
	for _, loud := range [][]float32{{0x1p64}, {-most, 0}, told("5f346947,5f4249fe")} {
		got, ok := impl.LoudOf(loud)
		wantFailed(t, fmt.Sprint("LoudOf ", loud), got, ok)
	}
}

func TestPeakOfSound(t *testing.T) {
	for _, c := range []struct {
		sound []float32
		at    int64
		peak  float32
	}{
		{[]float32{1, -4, 4}, 1, 4}, {[]float32{1, 4, -4}, 1, 4}, {[]float32{0}, 0, 0}, {[]float32{minus0}, 0, 0}, {[]float32{0, minus0, 0}, 0, 0}, {[]float32{-3}, 0, 3}, {[]float32{0, least, -least}, 1, least},
		{[]float32{1, 2, most, -most}, 2, most}, {[]float32{-2, 1, 0}, 0, 2}, {[]float32{1, 2, -3}, 2, 3}, {append(repeat(float32(1), 255), 2), 255, 2},
	} {
		at, peak, ok := impl.PeakOfSound(c.sound)
		wantSum(t, fmt.Sprint("PeakOfSound ", c), peak, ok, c.peak)
		if at != c.at {
			t.Errorf("PeakOfSound %v: got %d, want %d", c.sound, at, c.at)
		}
	}
	for _, bad := range append(badSounds(), nil, []float32{}) {
		at, peak, ok := impl.PeakOfSound(bad)
		wantFailed(t, fmt.Sprint("PeakOfSound ", bad), at, ok)
		wantFailed(t, fmt.Sprint("PeakOfSound ", bad), peak, ok)
	}
}

func TestScaleToPeak(t *testing.T) {
	for _, c := range [][3]string{
		{"3f800000,c0800000", "40000000", "3f000000,c0000000"}, {"3f800000,c0800000", "00000000", "00000000,80000000"}, {"3f800000,c0800000,80000000", "80000000", "80000000,00000000,00000000"},
		{"00000001", "00000001", "00000001"}, {"00000001", "33d6bf95", "33d6bf95"}, {"bf800000", "7f7fffff", "ff7fffff"}, {"7f7fffff,ff7fffff", "7f7fffff", "7f7fffff,ff7fffff"},
		{"40400000", "3f800000", "3f800000"}, {"006ce3ee", "3f800000", "3f800000"},
		// The quotient is so small that it is rounded to 0, or loses places.
		{"7f7fffff", "00000001", "00000000"}, {"7f7fffff", "3dcccccd", "3dccccbf"},
		// Here a last bit differs if the quotient is not rounded, or made otherwise.
		{"3fb3f3a3,bfa2bd7f,3f1683a5,3f10089d", "3f31107c", "3f31107c,bf20210a,3e941968,3e8db8ff"}, {"bf2cc5e9,401afc22,3ffe4eb3,40157fb1,3ff8d78b", "3fe9dafb", "bf025912,3fe9dafc,3fbfdc75,3fe193d5,3fbbbcdf"},
		{"40296d81,c02ba2fe,c0072f52,3fe7e9d5", "3f437c8e", "3f40f87d,bf437c8e,bf19f832,3f0411cc"}, {"3fe1e5f4,401c1c60,4031169e", "3e3cdb1c", "3df0e8c3,3e267c03,3e3cdb1c"},
	} {
		got, ok := impl.ScaleToPeak(told(c[0]), toldNumber(c[1]))
		wantNumbers(t, fmt.Sprint("ScaleToPeak ", c), got, ok, c[2])
	}
	got, ok := impl.ScaleToPeak(repeat(float32(4), 256), 1)
	wantNumbers(t, "ScaleToPeak of 256 numbers", got, ok, strings.Repeat("3f800000,", 255)+"3f800000")
}

func TestScaleToPeakFails(t *testing.T) {
	for _, bad := range append(badSounds(), nil, []float32{}, []float32{0}, []float32{minus0, 0, minus0}) {
		for _, peak := range []float32{0, 1} {
			got, ok := impl.ScaleToPeak(bad, peak)
			wantNoList(t, fmt.Sprint("ScaleToPeak ", bad, peak), got, ok)
		}
	}
	for _, peak := range append(badNumbers(), -least, -1, -most) {
		got, ok := impl.ScaleToPeak([]float32{1, 2}, peak)
		wantNoList(t, fmt.Sprint("ScaleToPeak to ", peak), got, ok)
	}
	// The quotient is infinite.
	for _, c := range [][2]float32{{least, most}, {least, 1}, {-1e-38, 4}} {
		got, ok := impl.ScaleToPeak([]float32{0, c[0]}, c[1])
		wantNoList(t, fmt.Sprint("ScaleToPeak ", c), got, ok)
	}
}

func TestSoftenSound(t *testing.T) {
	for _, c := range []struct {
		sound   string
		in, out int64
		want    string
	}{
		{"", 0, 0, ""}, {"40c00000,40c00000,40c00000", 1, 2, "40400000,40800000,40000000"}, {"40c00000,40c00000,40c00000", 0, 0, "40c00000,40c00000,40c00000"}, {"40c00000,40c00000,40c00000", 3, 0, "3fc00000,40400000,40900000"},
		{"40c00000,40c00000,40c00000", 0, 3, "40900000,40400000,3fc00000"}, {"40c00000,40c00000,40c00000", 3, 3, "3f900000,3fc00000,3f900000"}, {"40c00000", 1, 1, "3fc00000"}, {"80000000,7f7fffff,ff7fffff", 2, 1, "80000000,7f2aaaaa,feffffff"},
		{"00000001,00000001", 2, 0, "00000000,00000001"},
		// Here a last bit differs if the numbers are multiplied in another order, or not by quotients.
		{"bf3a88af,3fddb091,403a81b2,c0297d93,400c95cb,bd4c132a", 6, 3, "bdd52e7f,3efd5c14,3f9fdce2,bf914710,3f48d5fe,bc2eebdb"}, {"3fd389d0,bfc97666,c02e377c,bfa0c50e,40055674,3f3bd2bc", 4, 3, "3ea93b0d,bf212b85,bfd10f62,bf40ec78,3f855674,3e3bd2bc"},
		{"3ffd3c60,c00aaa56,bf102666,401edd53", 4, 3, "3eca96b3,bf266601,be2cfae1,3efe2eeb"}, {"bf76b95a,c031fed1,bdb4c8f3,bed72efd,40272b57,400c8f80", 6, 0, "be0cfc34,bf4b6c5d,bd1af563,be75ec90,3feed034,3ff0f600"},
		{"3fcffaa3,40165f78,bfa991a5,3f16b473,402f797e,4018cf61", 5, 2, "3e8aa718,3f487f4b,bf2991a5,3ec8f09a,3fc2f8c4,3f4bbf2c"}, {"bf3b30ff,c02aadaa,be1c2ed2,3f8adb8c,c0025124,bf36ffad", 3, 6, "be207324,bf73d386,bd85defe,3eee0aa7,bf14ef05,bdd12434"},
		{"bfc5b38b,400535be,c03bb84f,400aab9c,3d900859,bef73326", 5, 5, "be83cd08,3f1402d3,bf7a4b14,3f38e4d0,3ca00946,bda4ccc4"},
	} {
		got, ok := impl.SoftenSound(told(c.sound), c.in, c.out)
		wantNumbers(t, fmt.Sprint("SoftenSound ", c), got, ok, c.want)
	}
	got, ok := impl.SoftenSound(repeat(float32(1), 256), 256, 256)
	if !ok || len(got) != 256 {
		t.Fatalf("SoftenSound of 256 numbers: got %v %v", got, ok)
	}
	wantNumbers(t, "SoftenSound of 256 numbers", []float32{got[0], got[1], got[127], got[128], got[254], got[255]}, ok, "3b7e02fc,3bfd04f9,3e7fff01,3e7fff01,3bfd04f9,3b7e02fc")
}

func TestSoftenSoundFails(t *testing.T) {
	for _, bad := range badSounds() {
		got, ok := impl.SoftenSound(bad, 0, 0)
		wantNoList(t, fmt.Sprint("SoftenSound ", bad), got, ok)
	}
	for _, sound := range [][]float32{nil, {1}, {1, 2, 3}, repeat(float32(1), 256)} {
		for _, count := range badCounts(0, int64(len(sound))) {
			got, ok := impl.SoftenSound(sound, count, 0)
			wantNoList(t, fmt.Sprint("SoftenSound with in ", count), got, ok)
			got, ok = impl.SoftenSound(sound, 0, count)
			wantNoList(t, fmt.Sprint("SoftenSound with out ", count), got, ok)
		}
	}
}

func TestEchoSound(t *testing.T) {
	for _, c := range []struct {
		sound string
		delay int64
		keep  string
		want  string
	}{
		{"", 1, "3f800000", ""}, {"", 256, "3f800000", ""}, {"3f800000,00000000,00000000", 1, "3f000000", "3f800000,3f000000,3e800000"}, {"3f800000,00000000,00000000", 2, "3f000000", "3f800000,00000000,3f000000"},
		{"3f800000,00000000,00000000", 3, "3f000000", "3f800000,00000000,00000000"}, {"3f800000,00000000,00000000", 256, "3f000000", "3f800000,00000000,00000000"}, {"3f800000,40000000,40400000", 1, "00000000", "3f800000,40000000,40400000"},
		{"3f800000,40000000,80000000", 1, "80000000", "3f800000,40000000,80000000"}, {"3f800000,40000000,80000000", 1, "00000000", "3f800000,40000000,00000000"}, {"7f7fffff,ff7fffff,00000000", 1, "3f800000", "7f7fffff,00000000,00000000"},
		{"00000000,80000000,00000001", 1, "3f000000", "00000000,00000000,00000001"}, {"00000001,00000000", 1, "3f000000", "00000001,00000000"}, {"00000001,00000000", 1, "3f028f5c", "00000001,00000001"},
		{"ff7fffff", 1, "7f7fffff", "ff7fffff"},
		// Here a last bit differs if the product is not rounded before it is added.
		{"c001db73,3eb85a1b,3d5db64e,bff11dd9,3ef94d0b", 4, "3e980682", "c001db73,3eb85a1b,3d5db64e,bff11dd9,bdeca56c"}, {"bf8bfb73,3e05a1e1,bfad3e6c", 1, "be926b09", "bf8bfb73,3ee2f0ce,bfbd77f3"},
		{"bf8725a9,3ebec6cd,3f56662b,bea6420e,3fda2691,bf3955a3", 3, "bf900ee9", "bf8725a9,3ebec6cd,3f56662b,3f5d1331,3fa47919,bfd550c6"},
		{"401afba1,bf96a64b,3f11897c,be1b8d23,c0279122,c0157fcd,3fa96fef", 5, "3f583bfb", "401afba1,bf96a64b,3f11897c,be1b8d23,c0279122,be94b968,3ea8c14e"},
		{"3f022bd2,c00055d5,401ab8ed,c029ffc8,3f26dc5d,3fc8f1a8,bf403d01", 3, "3fb4d0c7", "3f022bd2,c00055d5,401ab8ed,bff80e98,c00b92f0,409f849f,c05f43d0"}, {"c007fab1,bfd2692f,c01afde9,3eae8720,3fba2b91", 1, "3f6a3c17", "c007fab1,c0659fa8,c0b68be0,c09c1e42,c0409ad2"},
	} {
		got, ok := impl.EchoSound(told(c.sound), c.delay, toldNumber(c.keep))
		wantNumbers(t, fmt.Sprint("EchoSound ", c), got, ok, c.want)
	}
	got, ok := impl.EchoSound(repeat(float32(1), 256), 255, 3)
	wantNumbers(t, "EchoSound of 256 numbers", got, ok, strings.Repeat("3f800000,", 255)+"40800000")
}

func TestEchoSoundFails(t *testing.T) {
	for _, bad := range badSounds() {
		got, ok := impl.EchoSound(bad, 256, 0)
		wantNoList(t, fmt.Sprint("EchoSound ", bad), got, ok)
	}
	for _, sound := range [][]float32{nil, {1, 2, 3}} {
		for _, delay := range badCounts(1, 256) {
			got, ok := impl.EchoSound(sound, delay, 1)
			wantNoList(t, fmt.Sprint("EchoSound with the delay ", delay), got, ok)
		}
		for _, keep := range badNumbers() {
			got, ok := impl.EchoSound(sound, 256, keep)
			wantNoList(t, fmt.Sprint("EchoSound with keep ", keep), got, ok)
		}
	}
	for _, c := range []struct {
		sound []float32
		keep  float32
	}{{[]float32{most, most}, 1}, {[]float32{most, -most, most}, 2}, {[]float32{2, 0}, most}, {[]float32{-math.MaxFloat32, 1}, -2}} {
		got, ok := impl.EchoSound(c.sound, 1, c.keep)
		wantNoList(t, fmt.Sprint("EchoSound ", c), got, ok)
	}
}
