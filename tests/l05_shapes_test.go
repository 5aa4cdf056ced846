package tests

import (
	"fmt"
	"strings"
	"testing"

	"loop.example/g01279/impl"
)

func TestRoughSound(t *testing.T) {
	for _, c := range [][3]string{
		{"40000000,40000000", "3f000000", "40000000,3f800000"}, {"", "3f000000", ""}, {"80000000", "3f800000", "80000000"}, {"40a00000", "7f7fffff", "40a00000"},
		{"3f800000,40000000,40400000", "00000000", "3f800000,40000000,40400000"}, {"3f800000,40000000,40400000", "3f800000", "3f800000,3f800000,3f800000"},
		{"3f800000,40000000,40400000", "bf800000", "3f800000,40400000,40a00000"}, {"3f800000,40000000,40400000", "40000000", "3f800000,00000000,bf800000"},
		{"80000000,80000000,80000000", "00000000", "80000000,00000000,00000000"}, {"80000000,80000000,80000000", "80000000", "80000000,80000000,80000000"},
		{"80000000,00000000,3f800000", "80000000", "80000000,00000000,3f800000"}, {"7f7fffff,7f7fffff", "3f800000", "7f7fffff,00000000"}, {"7f7fffff,ff7fffff", "00000000", "7f7fffff,ff7fffff"},
		{"ff7fffff,7f7fffff", "80000000", "ff7fffff,7f7fffff"}, {"00000001,00000001,00000001", "3f000000", "00000001,00000001,00000001"}, {"00000001,00000001,00000001", "3f400000", "00000001,00000000,00000000"},
		{"00000000,3f800000", "7f7fffff", "00000000,3f800000"}, {"3f800000,7f7fffff", "7f7fffff", "3f800000,00000000"}, {"3f800000,00000000,00000000", "ff7fffff", "3f800000,7f7fffff,00000000"},
		// Here a last bit differs if the product is not rounded before it is taken away.
		{"bdd19656,3e2d03ef,beb21311,bec18572", "bf40aa6c", "bdd19656,3dbc4b97,be61f001,bf23c526"}, {"3f88e945,bdcef0a1,3e821411,bf94e86a", "3f30a346", "3f88e945,bf56cd77,3ea5c66c,bfab589a"},
		{"3d52df6a,bf141d7c,3dc64fac,be536fb3", "bfea71b0", "3d52df6a,bef7f381,bf767f7e,bcee9670"}, {"be41bb1e,3f241606,3dc778b7,3f5c1d61", "3e678765", "be41bb1e,3f2f096b,bd42a932,3f567a26"},
	} {
		got, ok := impl.RoughSound(told(c[0]), toldNumber(c[1]))
		wantNumbers(t, fmt.Sprint("RoughSound ", c), got, ok, c[2])
	}
	got, ok := impl.RoughSound(repeat(float32(2), 256), 0.5)
	wantNumbers(t, "RoughSound of 256 numbers", got, ok, "40000000"+strings.Repeat(",3f800000", 255))
}

func TestSmoothSound(t *testing.T) {
	for _, c := range [][3]string{
		{"40000000,3f800000", "3f000000", "40000000,40000000"}, {"", "3f000000", ""}, {"80000000", "3f800000", "80000000"}, {"40a00000", "7f7fffff", "40a00000"},
		{"3f800000,40000000,40400000", "00000000", "3f800000,40000000,40400000"}, {"3f800000,40000000,40400000", "3f800000", "3f800000,40400000,40c00000"},
		{"3f800000,40000000,40400000", "bf800000", "3f800000,3f800000,40000000"}, {"3f800000,00000000,00000000,00000000", "40000000", "3f800000,40000000,40800000,41000000"},
		{"3f800000,00000000,00000000,00000000", "3f000000", "3f800000,3f000000,3e800000,3e000000"}, {"80000000,80000000,80000000", "00000000", "80000000,80000000,80000000"},
		{"80000000,80000000,80000000", "3f800000", "80000000,80000000,80000000"}, {"80000000,80000000,80000000", "bf800000", "80000000,00000000,80000000"}, {"80000000,80000000", "80000000", "80000000,00000000"},
		{"7f7fffff,ff7fffff,00000000", "3f800000", "7f7fffff,00000000,00000000"}, {"7f7fffff,00000000", "bf800000", "7f7fffff,ff7fffff"}, {"00000001,00000001,00000001", "3f000000", "00000001,00000001,00000001"},
		{"00000001,00000000,00000001", "3f400000", "00000001,00000001,00000002"}, {"00000000,00000000", "7f7fffff", "00000000,00000000"}, {"3f800000,00000000", "7f7fffff", "3f800000,7f7fffff"},
		{"3f800000,00000000", "ff7fffff", "3f800000,ff7fffff"},
		// Here a last bit differs if the product is not rounded before it is added, or is not that of the new number.
		{"be12ccd6,3e061dcd,4012e826,bf6a91dc,bf5120f2", "3f847bfa", "be12ccd6,bc8e9cf8,4011c0ee,3fb86f56,3f2ca9f6"},
		{"3e3e4bb4,bf6e8be7,bf1ab4ed,40083a0e,3e9cb1f7", "bd63ae0c", "3e3e4bb4,bf7130e1,bf0d4cc8,400a30bb,3e3e7cc4"},
		{"3f23d93f,3ea4bb41,3f25404a,bd5f21d8,beab20af", "3d809912", "3f23d93f,3eb94ee7,3f2b11ae,bc4d0e5c,beab87b1"},
		{"3d70e557,be887d27,3f6491d5,3f33b989,bf9af7f2", "bfb6f062", "3d70e557,beb38677,3fb26e00,bfa526ba,3f22228c"},
	} {
		got, ok := impl.SmoothSound(told(c[0]), toldNumber(c[1]))
		wantNumbers(t, fmt.Sprint("SmoothSound ", c), got, ok, c[2])
	}
	got, ok := impl.SmoothSound(append([]float32{2}, repeat(float32(1), 255)...), 0.5)
	wantNumbers(t, "SmoothSound of 256 numbers", got, ok, "40000000"+strings.Repeat(",40000000", 255))
	got, ok = impl.SmoothSound(append([]float32{1}, repeat(float32(0), 127)...), 2)
	wantChecked(t, "SmoothSound up to a great number", bitsText(got), ok && len(got) == 128, 0x29960130)
}

func TestRoughAndSmoothSoundsFail(t *testing.T) {
	functions := map[string]func([]float32, float32) ([]float32, bool){"RoughSound": impl.RoughSound, "SmoothSound": impl.SmoothSound}
	for name, f := range functions {
		for _, bad := range badSounds() {
			for _, share := range []float32{0, 1} {
				got, ok := f(bad, share)
				wantNoList(t, fmt.Sprint(name, " ", bad, share), got, ok)
			}
		}
		for _, share := range badNumbers() {
			for _, sound := range [][]float32{nil, {0}, {1}, {1, 2}, {0, 0}} {
				got, ok := f(sound, share)
				wantNoList(t, fmt.Sprint(name, " ", sound, share), got, ok)
			}
		}
	}
	// A product or a result is infinite, also where the numbers behind it would not be.
	for _, c := range []struct {
		name  string
		sound []float32
		share float32
	}{
		{"RoughSound", []float32{most, -most}, 1}, {"RoughSound", []float32{most, 0}, 2}, {"RoughSound", []float32{most, most}, 2}, {"RoughSound", []float32{2, most}, most}, {"RoughSound", []float32{most, most}, -1}, {"RoughSound", []float32{0, most, -most, 0}, 1},
		{"SmoothSound", []float32{most, most}, 1}, {"SmoothSound", []float32{most, 0}, 2}, {"SmoothSound", append([]float32{1}, repeat(float32(0), 128)...), 2}, {"SmoothSound", []float32{2, -most}, most}, {"SmoothSound", []float32{most, most, -most}, 1}, {"SmoothSound", []float32{-most, most}, -1},
	} {
		got, ok := functions[c.name](c.sound, c.share)
		wantNoList(t, fmt.Sprint(c), got, ok)
	}
}

func TestStretchSound(t *testing.T) {
	for _, c := range []struct {
		sound string
		count int64
		want  string
	}{
		{"00000000,40000000", 3, "00000000,3f800000,40000000"}, {"00000000,40000000", 2, "00000000,40000000"}, {"00000000,40000000", 5, "00000000,3f000000,3f800000,3fc00000,40000000"},
		{"3f800000,40000000,40800000", 2, "3f800000,40800000"}, {"3f800000,40000000,40800000", 3, "3f800000,40000000,40800000"}, {"3f800000,40000000,40800000", 5, "3f800000,3fc00000,40000000,40400000,40800000"},
		{"3f800000,40000000,40800000,41000000", 3, "3f800000,40400000,41000000"}, {"3f800000,40000000,40800000,41000000", 4, "3f800000,40000000,40800000,41000000"},
		{"40a00000,40a00000", 4, "40a00000,40a00000,40a00000,40a00000"}, {"80000000,80000000", 3, "00000000,00000000,00000000"}, {"80000000,00000000", 2, "00000000,00000000"},
		{"00000000,80000000", 2, "00000000,00000000"}, {"7f7fffff,7f7fffff,7f7fffff", 4, "7f7fffff,7f7fffff,7f7fffff,7f7fffff"}, {"7f7fffff,00000000", 3, "7f7fffff,7effffff,00000000"},
		{"00000000,7f7fffff", 2, "00000000,7f7fffff"}, {"ff7fffff,00000000,7f7fffff", 3, "ff7fffff,00000000,7f7fffff"}, {"00000001,00000003", 3, "00000001,00000002,00000003"},
		{"00000000,3f800000,00000000", 4, "00000000,3f2aaaab,3f2aaaaa,00000000"}, {"bf800000,40400000", 7, "bf800000,beaaaaaa,3eaaaaac,3f800000,3fd55556,40155555,40400000"},
		{"3f800000,30800000", 2, "3f800000,00000000"}, {"40400000,40000000,3f800000,00000000", 2, "40400000,00000000"}, {"3f800000,40000000,40400000,40800000,40a00000", 4, "3f800000,40155556,406aaaab,40a00000"},
		{"4c000000,3f800000", 2, "4c000000,00000000"},
		// Here a last bit differs if an operation is not rounded on its own, or made otherwise.
		{"bf4ae86f,3dbc3ea3,3e217486,bfb739d5", 8, "bf4ae86f,bed3b9c8,bd0d1590,3de2b878,3e0e379c,bd8e0586,bf401a2e,bfb739d5"},
		{"bd61e189,3d732f92,3f5bae65,3f245f79", 8, "bd61e189,bbc6d198,3d302d23,3e933ec2,3f2141ff,3f53c7b1,3f3c1395,3f245f79"},
		{"3e3e9852,bd9497c5,bf941365,3d9c0a46", 8, "3e3e9852,3d9a23e4,bd11d1b8,bec3c38d,bf58d7ff,bf7b0ec9,bee78d80,3d9c0a40"},
		{"c01f6141,3fc4be8d,bfad46d2,be710362", 8, "c01f6141,bf43a8aa,3f7633b0,3f360c52,bf071ce2,bf98d3a0,bf36f40b,be710360"},
	} {
		got, ok := impl.StretchSound(told(c.sound), c.count)
		wantNumbers(t, fmt.Sprint("StretchSound ", c), got, ok, c.want)
	}
	for _, c := range []struct {
		length, count int64
		want          uint32
	}{
		{256, 256, 0x6c1bfa2c}, {256, 255, 0x8c12a4a6}, {256, 2, 0x0114a79c}, {256, 100, 0x0289adc0}, {255, 256, 0xadb34c6a}, {2, 256, 0xe74128b5}, {3, 256, 0x9fd692a7}, {100, 256, 0x2a46d0d2}, {7, 200, 0x40a8550f},
	} {
		got, ok := impl.StretchSound(wholeNumbers(int(c.length)), c.count)
		wantChecked(t, fmt.Sprint("StretchSound ", c), bitsText(got), ok && int64(len(got)) == c.count, c.want)
	}
}

func TestStretchSoundFails(t *testing.T) {
	for _, bad := range append(badSounds(), nil, []float32{}, []float32{1}, []float32{0}) {
		for _, count := range []int64{2, 3, 256} {
			got, ok := impl.StretchSound(bad, count)
			wantNoList(t, fmt.Sprint("StretchSound ", bad, count), got, ok)
		}
	}
	for _, sound := range [][]float32{nil, {1}, {1, 2}, {1, 2, 3}, repeat(float32(1), 256)} {
		for _, count := range append(badCounts(2, 256), 1, 0) {
			got, ok := impl.StretchSound(sound, count)
			wantNoList(t, fmt.Sprint("StretchSound ", sound, count), got, ok)
		}
	}
	// A difference of neighbours is infinite, also at the number itself.
	for _, c := range []struct {
		sound []float32
		count int64
	}{{[]float32{most, -most}, 2}, {[]float32{most, -most}, 3}, {[]float32{0, most, -most}, 2}, {[]float32{0, most, -most}, 3}, {[]float32{-most, most, 0}, 3}, {[]float32{0, -most, most, 0}, 4}} {
		got, ok := impl.StretchSound(c.sound, c.count)
		wantNoList(t, fmt.Sprint("StretchSound ", c), got, ok)
	}
}

func TestThinSound(t *testing.T) {
	for _, c := range []struct {
		sound string
		by    int64
		want  string
	}{
		{"3f800000,40400000,40a00000", 2, "40000000"}, {"3f800000,40400000,40a00000", 1, "3f800000,40400000,40a00000"}, {"3f800000,40400000,40a00000", 3, "40400000"}, {"3f800000,40400000,40a00000", 4, ""},
		{"3f800000,40400000,40a00000", 256, ""}, {"", 1, ""}, {"", 256, ""}, {"80000000,3f800000", 1, "00000000,3f800000"}, {"80000000,80000000", 2, "00000000"},
		{"3f800000,40000000,40400000,40800000,40a00000", 2, "3fc00000,40600000"}, {"3f800000,40000000,40400000,40800000,40a00000,40c00000", 2, "3fc00000,40600000,40b00000"},
		{"3f800000,40000000,40400000,40800000,40a00000", 3, "40000000"}, {"3f800000,40000000,40400000,40800000,40a00000,40c00000,40e00000,41000000", 3, "40000000,40a00000"}, {"7f7fffff,ff7fffff", 2, "00000000"},
		{"7f7fffff,ff7fffff", 1, "7f7fffff,ff7fffff"}, {"7f7fffff,00000000", 2, "7effffff"}, {"00000001,00000000", 2, "00000000"}, {"00000001,00000001", 2, "00000001"}, {"00000001,00000002", 2, "00000002"},
		{"3f800000,3f800000,40000000", 3, "3faaaaab"}, {"80000001,00000000,00000000", 3, "80000000"},
		// Here a last bit differs if a sum is wider, goes in another order, or is not divided in the end.
		{"3d5f6ad6,bf1e7780,3e353ba6,be44aa1f,be2d71cd,3e9c9cdd,bdc19fe5,402de750,be91678f,bef6f0de,402c61e7,3d9a16e4,3f6696a0", 5, "be1960b6,3edd6afd"},
		{"3d733cb9,bfd14bc0,c0203bcd,bdf65c02,bf0aef63,3da96c67,be90efc3,bfcfe32e,400a5502,bd8acd9c,3ec6a165,3fbb2187,40259d29", 5, "bf72cf8e,3d5c8542"},
		{"3fe63e1a,3dd837cb,be308f6d,3fe4b9b2,be577f45,3dcc5e80,bec40b58,be195d51,bdc24f7a,3e0383e7,3dea7204,3fc4e284,bf31e56a", 3, "3f13ca71,3f0f0a76,be5633e9,3f17fc16"},
		{"bf7539f7,be412a04,3e09f81c,3fbf650d,400b9869,be0ff92e,3fd85927,be5ba494,3ea149e5,3e07bf2f,3daf8b11,bd8f03c6,bd886e58", 3, "beacaef5,3f96dce9,3f18cf5e,3d4aae71"},
	} {
		for _, sound := range [][]float32{told(c.sound), roomy(told(c.sound)...)} {
			got, ok := impl.ThinSound(sound, c.by)
			wantNumbers(t, fmt.Sprint("ThinSound ", c), got, ok, c.want)
		}
	}
	counted := make([]float32, 256)
	for k := range counted {
		counted[k] = float32(k)
	}
	for by, want := range map[int64]string{256: "42ff0000", 255: "42fe0000", 129: "42800000", 128: "427e0000,433f8000", 127: "427c0000,433e0000"} {
		got, ok := impl.ThinSound(counted, by)
		wantNumbers(t, fmt.Sprint("ThinSound of 256 numbers by ", by), got, ok, want)
	}
	for by, want := range map[int64]uint32{1: 0x6c1bfa2c, 2: 0xdf2987c1, 3: 0xdda8f0cb, 100: 0x488d5ceb} {
		got, ok := impl.ThinSound(wholeNumbers(256), by)
		wantChecked(t, fmt.Sprint("ThinSound of 256 numbers by ", by), bitsText(got), ok && int64(len(got)) == 256/by, want)
	}
}

func TestThinSoundFails(t *testing.T) {
	for _, bad := range badSounds() {
		for _, by := range []int64{1, 2, 256} {
			got, ok := impl.ThinSound(bad, by)
			wantNoList(t, fmt.Sprint("ThinSound ", bad, by), got, ok)
		}
	}
	for _, sound := range [][]float32{nil, {1}, {1, 2, 3}, repeat(float32(1), 256)} {
		for _, by := range badCounts(1, 256) {
			got, ok := impl.ThinSound(sound, by)
			wantNoList(t, fmt.Sprint("ThinSound ", sound, by), got, ok)
		}
	}
	// A sum is infinite, though its part would not be; but not that of a rest.
	for _, c := range []struct {
		sound []float32
		by    int64
	}{{[]float32{most, most}, 2}, {[]float32{1, 1, most, most}, 2}, {[]float32{most, most, -most}, 3}, {[]float32{most, most, most}, 2}} {
		got, ok := impl.ThinSound(c.sound, c.by)
		wantNoList(t, fmt.Sprint("ThinSound ", c), got, ok)
	}
	got, ok := impl.ThinSound([]float32{1, 2, 3, most, most}, 3)
	wantNumbers(t, "ThinSound with a rest that is too great", got, ok, "40000000")
}
