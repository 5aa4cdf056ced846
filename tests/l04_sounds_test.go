package tests

import (
	"fmt"
	"math"
	"strings"
	"testing"

	"loop.example/g01279/impl"
)

func TestEnergyOfSound(t *testing.T) {
	for _, c := range [][2]string{
		{"", "00000000"}, {"80000000", "00000000"}, {"c0400000,40800000", "41c80000"}, {"3f800000,40000000,40400000", "41600000"},
		// The last bit tells in which order 64-bit numbers are added.
		{"3f800800,32000000,32000000,32000000,32000000", "3f801000"}, {"32000000,32000000,32000000,32000000,3f800800", "3f801001"},
		// Squares that are too small or too great for 32-bit numbers, or nearly.
		{"0da24260", "00000000"}, {"1a000000", "00000000"}, {"1a800000", "00000002"}, {"1a000000,1a000000", "00000001"}, {"5f7fffff", "7f7ffffe"}, {"5f000000,5f000000,5f000000", "7f400000"},
		// Here a last bit differs if 32-bit numbers are added.
		{"3f10617b,3f9a8ff4,40195b98,bf9253da,3e35f2ee,bda4d155", "410dcea3"}, {"3fbd490f,bec9777f,3f04f7ad", "402721d9"}, {"400d1889,40034c8c", "41111b77"},
	} {
		got, ok := impl.EnergyOfSound(told(c[0]))
		wantSum(t, fmt.Sprint("EnergyOfSound ", c), got, ok, toldNumber(c[1]))
	}
	got, ok := impl.EnergyOfSound(repeat(float32(-1), 256))
	wantSum(t, "EnergyOfSound of 256 numbers", got, ok, 256)
	for _, bad := range append(badSounds(), []float32{0x1p64}, []float32{-most}, repeat(float32(0x1p63), 4)) {
		got, ok := impl.EnergyOfSound(bad)
		wantFailed(t, fmt.Sprint("EnergyOfSound ", bad), got, ok)
	}
}

func TestReachOfSound(t *testing.T) {
	for _, c := range []struct {
		sound []float32
		want  float32
	}{
		{nil, 0}, {[]float32{}, 0}, {[]float32{0}, 0}, {[]float32{minus0}, 0}, {[]float32{1, -4}, 4}, {[]float32{4, -1}, 4}, {[]float32{-least, 0}, least}, {[]float32{1, most, 2}, most}, {[]float32{-math.MaxFloat32}, most}, {append(repeat(float32(1), 255), -2), 2},
	} {
		got, ok := impl.ReachOfSound(c.sound)
		wantSum(t, fmt.Sprint("ReachOfSound ", c), got, ok, c.want)
	}
	for _, bad := range badSounds() {
		got, ok := impl.ReachOfSound(bad)
		wantFailed(t, fmt.Sprint("ReachOfSound ", bad), got, ok)
	}
}

func TestAddSounds(t *testing.T) {
	for _, c := range [][3]string{
		{"", "", ""}, {"3f800000", "40000000", "40400000"}, {"3f800000,40000000,40400000", "40a00000,3f800000", "40c00000,40400000,40400000"}, {"40a00000,3f800000", "3f800000,40000000,40400000", "40c00000,40400000,40400000"},
		{"3f800000,bf800000", "", "3f800000,bf800000"}, {"", "3f800000,bf800000", "3f800000,bf800000"}, {"7f7fffff", "ff7fffff", "00000000"}, {"7f7fffff", "72ffffff", "7f7fffff"}, {"00000001", "80000001,00000001", "00000000,00000001"},
		// Where one of both is at its end, +0 is added.
		{"80000000,80000000", "80000000", "80000000,00000000"}, {"80000000", "80000000,80000000", "80000000,00000000"}, {"80000000", "", "00000000"}, {"", "80000000", "00000000"}, {"80000000", "00000000", "00000000"},
		{"3dcccccd", "3e4ccccd", "3e99999a"}, {"4b800000", "3f800000", "4b800000"}, {"4b800001", "3f800000", "4b800002"},
	} {
		got, ok := impl.AddSounds(told(c[0]), told(c[1]))
		wantNumbers(t, fmt.Sprint("AddSounds ", c), got, ok, c[2])
	}
	for _, lengths := range [][2]int{{256, 256}, {256, 0}, {0, 256}, {256, 255}} {
		got, ok := impl.AddSounds(repeat(float32(1), lengths[0]), repeat(float32(2), lengths[1]))
		if !ok || len(got) != 256 {
			t.Errorf("AddSounds of the lengths %v: got %v %v", lengths, got, ok)
		}
	}
	for _, bad := range badSounds() {
		for _, good := range [][]float32{nil, {1}, repeat(float32(1), 256)} {
			got, ok := impl.AddSounds(bad, good)
			wantNoList(t, fmt.Sprint("AddSounds ", bad), got, ok)
			got, ok = impl.AddSounds(good, bad)
			wantNoList(t, fmt.Sprint("AddSounds with ", bad), got, ok)
		}
	}
	for _, loud := range [][2][]float32{{{most}, {most}}, {{0, -most}, {0, -most, 0}}, {{most, 0}, {0x1p104}}} {
		got, ok := impl.AddSounds(loud[0], loud[1])
		wantNoList(t, fmt.Sprint("AddSounds ", loud), got, ok)
	}
}

func TestScaleSound(t *testing.T) {
	for _, c := range [][3]string{
		{"", "40000000", ""}, {"3f800000,40000000,40400000", "40000000", "40000000,40800000,40c00000"}, {"3f800000,bf800000,80000000", "00000000", "00000000,80000000,80000000"}, {"3f800000,bf800000,80000000", "80000000", "80000000,00000000,00000000"},
		{"3f800000,bf800000", "bf800000", "bf800000,3f800000"}, {"7f7fffff,ff7fffff", "3f800000", "7f7fffff,ff7fffff"}, {"7f7fffff", "3f7fffff", "7f7ffffe"}, {"00000001", "3f000000", "00000000"}, {"00000001", "3f000001", "00000001"},
		{"3f800000", "7f7fffff", "7f7fffff"}, {"00000001", "7f7fffff", "34ffffff"}, {"3dcccccd,3e4ccccd,3e99999a", "3dcccccd", "3c23d70b,3ca3d70b,3cf5c290"},
	} {
		got, ok := impl.ScaleSound(told(c[0]), toldNumber(c[1]))
		wantNumbers(t, fmt.Sprint("ScaleSound ", c), got, ok, c[2])
	}
	got, ok := impl.ScaleSound(repeat(float32(2), 256), 2)
	wantNumbers(t, "ScaleSound of 256 numbers", got, ok, "40800000"+strings.Repeat(",40800000", 255))
	for _, bad := range badSounds() {
		for _, by := range []float32{0, 1} {
			got, ok := impl.ScaleSound(bad, by)
			wantNoList(t, fmt.Sprint("ScaleSound ", bad, by), got, ok)
		}
	}
	for _, by := range badNumbers() {
		for _, sound := range [][]float32{nil, {0}, {1, 2}} {
			got, ok := impl.ScaleSound(sound, by)
			wantNoList(t, fmt.Sprint("ScaleSound ", sound, by), got, ok)
		}
	}
	for _, c := range [][2]float32{{most, 2}, {most, -aboveOne}, {2, most}, {-1e30, 1e30}} {
		got, ok := impl.ScaleSound([]float32{0, c[0]}, c[1])
		wantNoList(t, fmt.Sprint("ScaleSound ", c), got, ok)
	}
}

func TestFadeEnds(t *testing.T) {
	for _, c := range []struct {
		sound   string
		in, out int64
		want    string
	}{
		{"", 0, 0, ""}, {"40800000,40800000,40800000", 1, 1, "40000000,40800000,40000000"}, {"40800000,40800000,40800000", 0, 0, "40800000,40800000,40800000"}, {"40800000,40800000,40800000", 3, 0, "3f800000,40000000,40400000"},
		{"40800000,40800000,40800000", 0, 3, "40400000,40000000,3f800000"}, {"40800000,40800000,40800000", 3, 3, "3f400000,3f800000,3f400000"}, {"40800000", 1, 1, "3f800000"}, {"40800000", 0, 1, "40000000"},
		{"80000000,7f7fffff,ff7fffff", 2, 1, "80000000,7f2aaaaa,feffffff"}, {"00000001,00000001", 2, 0, "00000000,00000001"}, {"00000001,00000001,00000001", 0, 2, "00000001,00000001,00000000"},
		// Here a last bit differs if the numbers are multiplied in another order, or not by quotients.
		{"3ee6851c,3ef4004e,3ec03d0a,c00441a4,c01804d4", 2, 2, "3e19ae13,3ea2aadf,3ec03d0a,bfb05786,bf4ab11b"}, {"c01775d1,c024f064,40386df9,c00c15e2,be9a9446,bfd32d37", 6, 1, "bead18ef,bf3c8073,3f9e151f,bfa01903,be5cd3d2,bf35022f"},
		{"3feb0499,3fd41fde,c028ec10,bf0eb634,3fa12408", 4, 5, "3e9cadbb,3ee24420,bf4ab4e1,be1839d2,3e56dab6"}, {"bf3cb0b7,40292c1f,3f95efd2,bf75600c,bf81cc3e,40062e75", 6, 2, "bdd7a564,3f4156ff,3f00846b,bf0c36e3,bef73be4,3f1959ab"},
		{"40284e87,403435b3,c00d5dab,bed4a29a,be92ac38,be3ad23f", 4, 6, "3ee6d219,3f4df43b,bf41df8c,be11ce96,bda7a040,bcd58292"}, {"bf98fbf3,3ed2f8aa,bfe59a5f,3f15ccb4,c01d36ff,c032de89", 5, 6, "be2ed6cd,3dc8ecd3,bf0333a4,3e2b3317,bf15ba7a,becc6c0b"},
	} {
		got, ok := impl.FadeEnds(told(c.sound), c.in, c.out)
		wantNumbers(t, fmt.Sprint("FadeEnds ", c), got, ok, c.want)
	}
	got, ok := impl.FadeEnds(repeat(float32(1), 256), 256, 256)
	if !ok || len(got) != 256 {
		t.Fatalf("FadeEnds of 256 numbers: got %v %v", got, ok)
	}
	wantNumbers(t, "FadeEnds of 256 numbers", []float32{got[0], got[1], got[127], got[128], got[254], got[255]}, ok, "3b7e02fc,3bfd04f9,3e7fff01,3e7fff01,3bfd04f9,3b7e02fc")
}

func TestFadeEndsFails(t *testing.T) {
	for _, bad := range badSounds() {
		got, ok := impl.FadeEnds(bad, 0, 0)
		wantNoList(t, fmt.Sprint("FadeEnds ", bad), got, ok)
	}
	for _, sound := range [][]float32{nil, {1}, {1, 2, 3}, repeat(float32(1), 256)} {
		for _, count := range badCounts(0, int64(len(sound))) {
			got, ok := impl.FadeEnds(sound, count, 0)
			wantNoList(t, fmt.Sprint("FadeEnds with in ", count), got, ok)
			got, ok = impl.FadeEnds(sound, 0, count)
			wantNoList(t, fmt.Sprint("FadeEnds with out ", count), got, ok)
		}
	}
}

func TestJoinSounds(t *testing.T) {
	for _, c := range []struct {
		a, b string
		over int64
		want string
	}{
		{"", "", 0, ""}, {"3f800000", "", 0, "3f800000"}, {"", "3f800000", 0, "3f800000"}, {"3f800000,40000000,40400000", "40a00000,3f800000", 0, "3f800000,40000000,40400000,40a00000,3f800000"},
		{"3f800000,40000000,40400000", "40a00000,3f800000", 1, "3f800000,40000000,40800000,3f800000"}, {"3f800000,40000000,40400000", "40a00000,3f800000", 2, "3f800000,40400000,3fd55555"}, {"3f800000,40000000", "41100000,41000000,40e00000", 2, "406aaaab,40c00000,40e00000"},
		{"3f800000", "40400000", 1, "40000000"}, {"40800000,40800000,40800000", "c0800000,c0800000,c0800000", 3, "40000000,00000000,c0000000"}, {"80000000", "80000000", 1, "00000000"}, {"80000000", "80000000", 0, "80000000,80000000"},
		{"7f7fffff", "7f7fffff", 1, "7f7fffff"}, {"7f7fffff", "ff7fffff", 0, "7f7fffff,ff7fffff"}, {"00000000", "7f7fffff", 1, "7effffff"}, {"00000001", "00000000", 1, "00000001"},
		// Here a last bit differs if an operation is not rounded on its own, or made otherwise.
		{"3f56f6e7", "c02a4fca,402b1468,bfb15782,bff377a4,bf991c70", 1, "bf692421,402b1468,bfb15782,bff377a4,bf991c70"}, {"bfe00d54,bfa07e5b", "4030d139,40042a9f,3eab1d81", 1, "bfe00d54,3f412416,40042a9f,3eab1d81"},
		{"3ff9e67c,3e411d5f", "bfa408ec,bfdc0b7b,3f7c1669", 2, "3f5fd808,bf8aa66e,3f7c1669"}, {"3fc98f35,c010301a,bfbbad6e,c005a160", "c038e659,bf8ef3f3,402c2458,bef7b93a,3ea2d441", 2, "3fc98f35,c010301a,bff86285,bfb8638c,402c2458,bef7b93a,3ea2d441"},
		{"c018acf4,3e1d7550", "bf861418,3fef106f,3f813aa5", 2, "bff842a2,3fa5efd8,3f813aa5"}, {"c010aa80,c02b321f,3f94977f,bfc72f63", "bf8e6c78,bf6dc3cb,bff42b31,c029df20", 2, "c010aa80,c02b321f,3ece58b0,bf91a664,bff42b31,c029df20"},
	} {
		got, ok := impl.JoinSounds(told(c.a), told(c.b), c.over)
		wantNumbers(t, fmt.Sprint("JoinSounds ", c), got, ok, c.want)
	}
	// As long as a sound may be.
	for _, c := range [][3]int{{256, 0, 0}, {0, 256, 0}, {128, 128, 0}, {200, 57, 1}, {256, 256, 256}, {256, 3, 3}, {3, 256, 3}, {256, 1, 1}} {
		got, ok := impl.JoinSounds(repeat(float32(1), c[0]), repeat(float32(1), c[1]), int64(c[2]))
		wantNumbers(t, fmt.Sprint("JoinSounds of the lengths ", c), got, ok, "3f800000"+strings.Repeat(",3f800000", 255))
	}
}

func TestJoinSoundsFails(t *testing.T) {
	for _, bad := range badSounds() {
		for _, good := range [][]float32{nil, {1}} {
			got, ok := impl.JoinSounds(bad, good, 0)
			wantNoList(t, fmt.Sprint("JoinSounds ", bad), got, ok)
			got, ok = impl.JoinSounds(good, bad, 0)
			wantNoList(t, fmt.Sprint("JoinSounds with ", bad), got, ok)
		}
		got, ok := impl.JoinSounds(bad, repeat(float32(1), len(bad)), int64(len(bad)))
		wantNoList(t, fmt.Sprint("JoinSounds over all of ", bad), got, ok)
		got, ok = impl.JoinSounds(repeat(float32(1), len(bad)), bad, int64(len(bad)))
		wantNoList(t, fmt.Sprint("JoinSounds over all with ", bad), got, ok)
	}
	for _, lengths := range [][2]int{{0, 0}, {0, 2}, {2, 0}, {1, 1}, {3, 2}, {2, 3}, {100, 156}} {
		for _, over := range badCounts(0, int64(min(lengths[0], lengths[1]))) {
			got, ok := impl.JoinSounds(repeat(float32(1), lengths[0]), repeat(float32(1), lengths[1]), over)
			wantNoList(t, fmt.Sprint("JoinSounds of the lengths ", lengths, " over ", over), got, ok)
		}
	}
	// Together, they are too long for a sound.
	for _, c := range [][3]int{{256, 1, 0}, {1, 256, 0}, {129, 128, 0}, {200, 58, 1}, {256, 256, 255}, {256, 256, 0}, {256, 4, 3}, {4, 256, 3}} {
		got, ok := impl.JoinSounds(repeat(float32(1), c[0]), repeat(float32(1), c[1]), int64(c[2]))
		wantNoList(t, fmt.Sprint("JoinSounds of the lengths ", c), got, ok)
	}
	for _, c := range [][2][]float32{{{most}, {-most}}, {{-most, 0}, {most, 0}}, {{0, most}, {0, -0x1p104}}} {
		got, ok := impl.JoinSounds(c[0], c[1], int64(len(c[0])))
		wantNoList(t, fmt.Sprint("JoinSounds ", c), got, ok)
	}
}
