package tests

import (
	"fmt"
	"math"
	"strings"
	"testing"

	"loop.example/g01279/impl"
)

func TestWindowOf(t *testing.T) {
	for _, c := range []struct {
		kind, count int64
		want        string
	}{
		{impl.WindowFlat, 1, "3f800000"}, {impl.WindowFlat, 2, "3f800000,3f800000"}, {impl.WindowFlat, 3, "3f800000,3f800000,3f800000"}, {impl.WindowFlat, 5, "3f800000,3f800000,3f800000,3f800000,3f800000"},
		{impl.WindowFlat, 7, "3f800000,3f800000,3f800000,3f800000,3f800000,3f800000,3f800000"}, {impl.WindowFlat, 10, "3f800000,3f800000,3f800000,3f800000,3f800000,3f800000,3f800000,3f800000,3f800000,3f800000"},
		{impl.WindowHill, 1, "3f800000"}, {impl.WindowHill, 2, "3f000000,3f000000"}, {impl.WindowHill, 3, "3eaaaaab,3f800000,3eaaaaac"}, {impl.WindowHill, 5, "3e4ccccd,3f19999a,3f800000,3f19999a,3e4cccd0"},
		{impl.WindowHill, 7, "3e124925,3edb6db7,3f36db6e,3f800000,3f36db6e,3edb6db8,3e124928"}, {impl.WindowHill, 10, "3dcccccd,3e99999a,3f000000,3f333333,3f666666,3f666666,3f333334,3f000000,3e999998,3dccccd0"},
		{impl.WindowRound, 1, "00000000"}, {impl.WindowRound, 2, "00000000,3f800000"}, {impl.WindowRound, 3, "00000000,3f400002,3f3fffff"}, {impl.WindowRound, 5, "00000000,3eb0e442,3f678dde,3f678dde,3eb0e448"},
		{impl.WindowRound, 7, "00000000,3e40c5f0,3f1c7b90,3f7352f4,3f7352f2,3f1c7b90,3e40c5e6"}, {impl.WindowRound, 10, "00000000,3dc3910c,3eb0e442,3f278ddf,3f678dde,3f800000,3f678dde,3f278ddf,3eb0e448,3dc39114"},
		{impl.WindowFoot, 1, "3da3d70c"}, {impl.WindowFoot, 2, "3da3d70c,3f800000"}, {impl.WindowFoot, 3, "3da3d70c,3f451eba,3f451eb8"}, {impl.WindowFoot, 5, "3da3d70c,3ecbb348,3f698284,3f698284,3ecbb34d"},
		{impl.WindowFoot, 7, "3da3d70c,3e81a2bc,3f2471ae,3f74568e,3f74568d,3f2471ae,3e81a2b7"}, {impl.WindowFoot, 10, "3da3d70c,3e2be172,3ecbb348,3f2ea13e,3f698284,3f800000,3f698284,3f2ea13e,3ecbb34d,3e2be176"},
	} {
		got, ok := impl.WindowOf(c.kind, c.count)
		wantNumbers(t, fmt.Sprint("WindowOf ", c), got, ok, c.want)
	}
}

func TestWindowsOfManyNumbers(t *testing.T) {
	for _, c := range []struct {
		kind, count int64
		want        uint32
	}{
		{impl.WindowFlat, 255, 0x3196a7a0}, {impl.WindowFlat, 256, 0x022d9507}, {impl.WindowFlat, 100, 0x97b29d04}, {impl.WindowHill, 255, 0x5138b87c}, {impl.WindowHill, 256, 0xccbf7947},
		{impl.WindowHill, 100, 0x37b2ab63}, {impl.WindowRound, 255, 0xed75d17e}, {impl.WindowRound, 256, 0x8a7cc25d}, {impl.WindowRound, 100, 0x67134d93}, {impl.WindowFoot, 255, 0x4562c46d},
		{impl.WindowFoot, 256, 0x217b14fb}, {impl.WindowFoot, 100, 0x3ec9db38},
	} {
		got, ok := impl.WindowOf(c.kind, c.count)
		wantChecked(t, fmt.Sprint("WindowOf ", c), bitsText(got), ok && int64(len(got)) == c.count, c.want)
	}
}

func TestWindowOfFails(t *testing.T) {
	for _, kind := range badCounts(0, 3) {
		for _, count := range []int64{1, 2, 256} {
			got, ok := impl.WindowOf(kind, count)
			wantNoList(t, fmt.Sprint("WindowOf the kind ", kind, " and ", count), got, ok)
		}
	}
	for kind := range int64(4) {
		for _, count := range badCounts(1, 256) {
			got, ok := impl.WindowOf(kind, count)
			wantNoList(t, fmt.Sprint("WindowOf the kind ", kind, " and ", count), got, ok)
		}
	}
}

func TestKindsOfWindows(t *testing.T) {
	for name, kinds := range map[string][2]int64{"WindowFlat": {impl.WindowFlat, 0}, "WindowHill": {impl.WindowHill, 1}, "WindowRound": {impl.WindowRound, 2}, "WindowFoot": {impl.WindowFoot, 3}, "MaxSpectrum": {impl.MaxSpectrum, 64}} {
		if kinds[0] != kinds[1] {
			t.Errorf("%s: got %d, want %d", name, kinds[0], kinds[1])
		}
	}
}

func TestWindowSound(t *testing.T) {
	for _, c := range [][3]string{
		{"", "", ""}, {"40800000,40c00000", "3f000000,3f000000", "40000000,40400000"}, {"3f800000,40000000,40400000", "00000000,3f800000,80000000", "00000000,40000000,80000000"},
		{"80000000,80000000,c0400000", "3f800000,bf800000,00000000", "80000000,00000000,80000000"}, {"00000001,00000001,80000001", "3f000000,3f400000,3e800000", "00000000,00000001,80000000"},
		{"7f7fffff,ff7fffff,7f7fffff", "3f800000,3f000000,bf800000", "7f7fffff,feffffff,ff7fffff"}, {"71800000", "4d000000", "7f000000"}, {"3f99999a,3fb33333", "3fa66666,bf8ccccd", "3fc7ae15,bfc51eb8"},
		{"0d800000", "21800000", "00000000"},
	} {
		got, ok := impl.WindowSound(told(c[0]), told(c[1]))
		wantNumbers(t, fmt.Sprint("WindowSound ", c), got, ok, c[2])
		got, ok = impl.WindowSound(told(c[1]), told(c[0]))
		wantNumbers(t, fmt.Sprint("WindowSound exchanged ", c), got, ok, c[2])
	}
	got, ok := impl.WindowSound(repeat(float32(3), 256), repeat(float32(0.5), 256))
	wantNumbers(t, "WindowSound of 256 numbers", got, ok, strings.Repeat("3fc00000,", 255)+"3fc00000")
}

func TestWindowSoundFails(t *testing.T) {
	for _, bad := range badSounds() {
		for _, good := range [][]float32{repeat(float32(0), len(bad)), repeat(float32(1), len(bad))} {
			got, ok := impl.WindowSound(bad, good)
			wantNoList(t, fmt.Sprint("WindowSound ", bad), got, ok)
			got, ok = impl.WindowSound(good, bad)
			wantNoList(t, fmt.Sprint("WindowSound with ", bad), got, ok)
		}
	}
	for _, lengths := range [][2]int{{0, 1}, {1, 0}, {2, 1}, {1, 2}, {256, 255}, {255, 256}, {256, 257}} {
		got, ok := impl.WindowSound(repeat(float32(1), lengths[0]), repeat(float32(1), lengths[1]))
		wantNoList(t, fmt.Sprint("WindowSound of the lengths ", lengths), got, ok)
	}
	for _, c := range [][2]float32{{most, 2}, {2, most}, {-most, aboveOne}, {0x1p64, 0x1p64}, {most, -most}} {
		got, ok := impl.WindowSound([]float32{1, c[0], 1}, []float32{1, c[1], 1})
		wantNoList(t, fmt.Sprint("WindowSound ", c), got, ok)
	}
}

func TestSpectrumOf(t *testing.T) {
	for _, c := range []struct {
		sound string
		count int64
		want  string
	}{
		{"", 1, "0000000000000000"}, {"", 3, "0000000000000000,0000000000000000,0000000000000000"}, {"3f800000,40400000", 2, "4080000000000000,c000000000000000"}, {"80000000", 1, "0000000000000000"},
		{"80000000,80000000", 2, "0000000000000000,0000000000000000"}, {"40000000", 4, "4000000000000000,4000000000000000,4000000000000000,4000000000000000"}, {"3f800000,40000000,40400000", 1, "40c0000000000000"},
		{"3f800000,40000000,40400000,40800000", 2, "4120000000000000,c000000000000000"}, {"00000000,3f800000", 4, "3f80000000000000,00000000bf800000,bf80000000000000,000000003f800000"},
		{"00000000,00000000,00000000,3f800000", 4, "3f80000000000000,000000003f800000,bf80000000000000,00000000bf800000"},
		{"00000000,3f800000,00000000,00000000,00000000,3f800000", 4, "4000000000000000,00000000c0000000,c000000000000000,0000000040000000"}, {"7f7fffff", 2, "7f7fffff00000000,7f7fffff00000000"},
		{"7f7fffff,ff7fffff", 1, "0000000000000000"}, {"00000000,7f7fffff,00000000,ff7fffff", 2, "0000000000000000,0000000000000000"}, {"00000001", 3, "0000000100000000,0000000100000000,0000000100000000"},
		{"00000000,00000001", 5, "0000000100000000,0000000080000001,8000000180000001,8000000100000001,0000000000000001"}, {"00000000,3f800000", 3, "3f80000000000000,bf000000bf5db3d7,bf0000003f5db3d7"},
		{"00000000,00000000,3f800000", 3, "3f80000000000000,bf0000003f5db3d7,bf000000bf5db3d7"}, {"00000000,00000000,00000000,3f800000", 3, "3f80000000000000,3f80000000000000,3f80000000000000"},
		// Here a last bit differs if an operation is not rounded on its own, or the sum goes in another order.
		{"3e387443,bee6f792,3ed7c446,bdfb6448,bd8cf38c,bf4f4933,3f09e3fc", 6, "be9fd98c00000000,3d0e93f0bf3c30fd,3f866a943de97ac8,401d1d9000000000,3f866a94bde97ac8,3d0e93f03f3c30fd"},
		{"bfb71709,bf791082,bd950e16,3fae6c04,be174903,be4fea0b,bfaeffbc", 7, "c035352200000000,c07b0cb6bf8b987c,3dc54a143f5a5f6e,3e714a6cbfc558a6,3e714a6c3fc558a6,3dc54a14bf5a5f6e,c07b0cb63f8b987c"},
		{"be281346,bd5a6cf0,3ff7e92e,3efed87e,bf98b3d4,bf858f25", 6, "bc9e5ec000000000,bfca847cc0645909,3f0294a03fed2fde,3f96df5f00000000,3f0294a0bfed2fde,bfca847c40645909"},
		{"3ec13b20,bea8085f,3e25f159,3e2118e3,bd5b6aa7,3d875121,bf71352b,bd921d01,bec459dd", 6, "bf820b2800000000,bf4059093f0c71cf,bdd377563e8403d2,bf29e76a00000000,bdd37756be8403d2,bf405909bf0c71cf"},
	} {
		got, ok := impl.SpectrumOf(told(c.sound), c.count)
		wantSpectrum(t, fmt.Sprint("SpectrumOf ", c), got, ok, c.want)
	}
	for count, want := range map[int64]uint32{64: 0x65e5cf73, 63: 0xd4adeab0, 32: 0xff7ff70f, 2: 0x17e7b5d8, 1: 0xf9953d19} {
		got, ok := impl.SpectrumOf(wholeNumbers(256), count)
		wantChecked(t, fmt.Sprint("SpectrumOf 256 numbers and ", count), complexBits(got), ok && int64(len(got)) == count, want)
	}
	got, ok := impl.SpectrumOf(nil, 64)
	wantSpectrum(t, "SpectrumOf no numbers and 64", got, ok, strings.Repeat("0000000000000000,", 63)+"0000000000000000")
}

func TestSpectrumOfFails(t *testing.T) {
	for _, bad := range badSounds() {
		for _, count := range []int64{1, 2, 64} {
			got, ok := impl.SpectrumOf(bad, count)
			wantNoList(t, fmt.Sprint("SpectrumOf ", bad, count), got, ok)
		}
	}
	for _, sound := range [][]float32{nil, {1}, {1, 2, 3}, repeat(float32(0), 256)} {
		for _, count := range badCounts(1, 64) {
			got, ok := impl.SpectrumOf(sound, count)
			wantNoList(t, fmt.Sprint("SpectrumOf ", sound, count), got, ok)
		}
	}
	// The first sum is infinite, or a later one, or one on its way, or only its imaginary part.
	for _, c := range []struct {
		sound []float32
		count int64
	}{{[]float32{most, most}, 1}, {[]float32{-most, -most}, 3}, {[]float32{most, -most}, 2}, {[]float32{most, most, -most}, 1}, {[]float32{0, most, 0, -most}, 4}, {[]float32{0, most, 0, -most}, 3}} {
		got, ok := impl.SpectrumOf(c.sound, c.count)
		wantNoList(t, fmt.Sprint("SpectrumOf ", c), got, ok)
	}
}

func TestPowersOfSpectrum(t *testing.T) {
	for _, c := range [][2]string{
		{"4040000040800000,0000000000000000", "41c80000,00000000"}, {"8000000080000000", "00000000"}, {"c040000000000000,00000000c0800000", "41100000,41800000"},
		{"1a00000000000000,1a80000000000000,1a0000001a000000,0000000100000001", "00000000,00000002,00000001,00000000"}, {"5f7fffff00000000,000000005f7fffff", "7f7ffffe,7f7ffffe"}, {"5f0000005f000000", "7f000000"},
		// Here a last bit differs if a power is computed with 32-bit numbers.
		{"be8505543ddbb13b,be818c893df97150,3fcbc38ebe4dc585,bf85c2c23e303727", "3da1ce29,3da17f92,4024c550,3f8f9243"},
		{"3dcb71cabe593dd3,be01b6d9bf04dad4,be097e97bf986ff5,3fdcab28bf30d98b", "3d60c549,3e921c05,3fb7d90e,405cc195"},
	} {
		got, ok := impl.PowersOfSpectrum(toldComplex(c[0]))
		wantNumbers(t, fmt.Sprint("PowersOfSpectrum ", c), got, ok, c[1])
	}
	for _, count := range []int{1, 63, 64} {
		got, ok := impl.PowersOfSpectrum(repeat(complex64(complex(1, -2)), count))
		wantNumbers(t, fmt.Sprint("PowersOfSpectrum of ", count), got, ok, "40a00000"+strings.Repeat(",40a00000", count-1))
	}
}

func TestPowersOfSpectrumFails(t *testing.T) {
	for _, bad := range badSpectra() {
		got, ok := impl.PowersOfSpectrum(bad)
		wantNoList(t, fmt.Sprint("PowersOfSpectrum ", bad), got, ok)
	}
	for _, x := range []complex64{0x1p64, complex(0, -0x1p64), complex(0x1.8p63, 0x1.8p63), complex(most, -most)} {
		got, ok := impl.PowersOfSpectrum([]complex64{1, x, 1})
		wantNoList(t, fmt.Sprint("PowersOfSpectrum with ", x), got, ok)
	}
}

func TestBackToSound(t *testing.T) {
	for _, c := range [][2]string{
		{"4080000000000000,c000000000000000", "3f800000,40400000"}, {"40a0000040e00000", "40a00000"}, {"8000000080000000", "00000000"}, {"c040000000000000", "c0400000"},
		{"000000007f7fffff,000000007f7fffff", "00000000,00000000"}, {"7f7fffff00000000", "7f7fffff"}, {"0000000000000000,0000000040000000,0000000000000000,00000000c0000000", "00000000,bf800000,00000000,3f800000"},
		{"3f80000000000000,3f80000000000000,3f80000000000000", "3f800000,00000000,00000000"}, {"0000000100000000", "00000001"}, {"0000000100000000,0000000000000000", "00000000,00000000"},
		{"0000000300000000,0000000000000000", "00000002,00000002"}, {"000000003f800000,0000000000000000,0000000000000000", "00000000,00000000,00000000"},
		{"0000000000000000,4040000000000000,0000000000000000", "3f800000,bf000000,bf000000"}, {"0000000000000000,0000000040400000,0000000000000000", "00000000,bf5db3d7,3f5db3d7"},
		// Here a last bit differs if a sum is narrower or wider, or goes in another order, or if it is not divided in the end.
		{"3e33be06bf8df46f,3f8282944023da61,3ebfa4134019cac7", "3f05ece7,be6072fd,be038298"},
		{"bd764322beb902df,be8e46ddbd6747a3,bd6dbd373fa7bda8,3f206e69bedf937d,bd86c1c13ec5501b,bdd018a33de69467,3e3acfb1bdd9ee47", "3d0fbf0b,be529acf,3d2599fb,3e5e09d0,be8c0d92,3db73e35,3d1897f8"},
		{"3f738e9fbe7e742b,bdedcb7a3f2729ac,3e464ccf3ddb2ed2,3f933216be0cf0be,c008159a3f3a0529,3ed1aa0c3e243867,3e04c94bbeadc50e", "3dad21b8,3e466d79,be88c9c5,3e8b2d75,3e2a0238,3e55f3f6,3e963f4f"},
		{"be6eb63f3f132629,3d60a507400ca044,3ec4fc043f41fa47,beffa96b3e3f4eb9,3f30773abe4ee99f,bda6e018bdc5ad2a,3f00369f3e54d839", "3deead96,bec4302b,be81ee47,be29e598,baea8c92,3ddc666b,3eb1dbaa"},
	} {
		got, ok := impl.BackToSound(toldComplex(c[0]))
		wantNumbers(t, fmt.Sprint("BackToSound ", c), got, ok, c[1])
	}
	for count, want := range map[int]uint32{64: 0x76376c5c, 63: 0x01f96f43, 32: 0xbf5d2919, 12: 0x4040b463} {
		got, ok := impl.BackToSound(wholeSpectrum(count))
		wantChecked(t, fmt.Sprint("BackToSound of ", count), bitsText(got), ok && len(got) == count, want)
	}
}

func TestBackToSoundFails(t *testing.T) {
	for _, bad := range badSpectra() {
		got, ok := impl.BackToSound(bad)
		wantNoList(t, fmt.Sprint("BackToSound ", bad), got, ok)
	}
	// A sum is infinite, though it would not be if it were divided before.
	for _, list := range [][]complex64{{math.MaxFloat32, math.MaxFloat32}, {math.MaxFloat32, -math.MaxFloat32}, {math.MaxFloat32, math.MaxFloat32, -math.MaxFloat32}, {0, complex(0, most), 0, complex(0, -most)}} {
		got, ok := impl.BackToSound(list)
		wantNoList(t, fmt.Sprint("BackToSound ", list), got, ok)
	}
}

func TestBandsOf(t *testing.T) {
	for _, c := range []struct {
		powers string
		edges  []int64
		want   string
	}{
		{"3f800000,40000000,40400000", []int64{0, 1, 3}, "3f800000,40a00000"}, {"", []int64{0, 0}, "00000000"}, {"", []int64{0, 0, 0}, "00000000,00000000"}, {"3f800000,40000000,40400000", []int64{0, 3}, "40c00000"},
		{"3f800000,40000000,40400000", []int64{3, 3}, "00000000"}, {"3f800000,40000000,40400000", []int64{0, 0, 0, 1, 1, 2, 3, 3}, "00000000,00000000,3f800000,00000000,40000000,40400000,00000000"},
		{"3f800000,40000000,40400000,40800000", []int64{1, 3}, "40a00000"}, {"80000000,80000000", []int64{0, 1, 2}, "00000000,00000000"}, {"7f7fffff,00000000,7f7fffff", []int64{0, 2, 3}, "7f7fffff,7f7fffff"},
		{"00000001,00000001", []int64{0, 2}, "00000002"}, {"40a00000", []int64{0, 1}, "40a00000"},
		// Here a last bit differs if a sum is wider, goes in another order, or is a difference of two longer ones.
		{"3d6ebb4a,3f3837fd,400ae831,3d943742,3ffaecbe,3eb670eb,3e2de3dc,3f09469e,3eed197a", []int64{0, 4, 9}, "404152d8,405f1791"},
		{"3f6de744,3f0b7f6b,3d7a074d,3da99d21,3f2fc83d,3ee07aae,3e938226,3eb0dcdf,3dd42450", []int64{0, 4, 9}, "3fcf1d64,3fee5cd1"},
		{"3e03821f,3ee51186,3fa17e40,3f49dbd2,3fa25fb3,401a7124,3ea48a54,3fae6717,3eb21033", []int64{0, 4, 9}, "40281068,40b6d3ed"},
	} {
		got, ok := impl.BandsOf(told(c.powers), c.edges)
		wantNumbers(t, fmt.Sprint("BandsOf ", c), got, ok, c.want)
	}
	// As many powers and edges as there may be.
	edges := []int64{}
	for k := range int64(64) {
		edges = append(edges, k)
	}
	got, ok := impl.BandsOf(repeat(float32(2), 64), edges)
	wantNumbers(t, "BandsOf 64 powers and 64 edges", got, ok, "40000000"+strings.Repeat(",40000000", 62))
	got, ok = impl.BandsOf(repeat(float32(2), 64), []int64{0, 64, 64})
	wantNumbers(t, "BandsOf 64 powers as one band", got, ok, "43000000,00000000")
}

func TestBandsOfFails(t *testing.T) {
	for _, bad := range badPowers() {
		for _, edges := range [][]int64{{0, 0}, {0, 1}, {0, int64(len(bad))}} {
			got, ok := impl.BandsOf(bad, edges)
			wantNoList(t, fmt.Sprint("BandsOf ", bad, edges), got, ok)
		}
	}
	for _, count := range []int{0, 1, 2, 3, 63, 64} {
		for _, bad := range badEdges(int64(count)) {
			got, ok := impl.BandsOf(repeat(float32(1), count), bad)
			wantNoList(t, fmt.Sprint("BandsOf ", count, " powers with the edges ", bad), got, ok)
		}
		// There may be room behind the powers, but there are none.
		got, ok := impl.BandsOf(roomy(repeat(float32(1), count)...), []int64{0, int64(count) + 1})
		wantNoList(t, fmt.Sprint("BandsOf one more than ", count), got, ok)
	}
	// The sum of a band is infinite, while those of others are not.
	for _, powers := range [][]float32{{most, most}, {most, 0x1p103}} {
		for _, edges := range [][]int64{{0, 2}, {0, 0, 2}, {0, 2, 2}} {
			got, ok := impl.BandsOf(powers, edges)
			wantNoList(t, fmt.Sprint("BandsOf ", powers, edges), got, ok)
		}
		got, ok := impl.BandsOf(powers, []int64{0, 1, 2})
		wantNumbers(t, fmt.Sprint("BandsOf each of ", powers), got, ok, bitsText(powers))
	}
}

func TestCentreOfPowers(t *testing.T) {
	for _, c := range [][2]string{
		{"3f800000,00000000,3f800000", "3f800000"}, {"00000000,00000000,40a00000", "40000000"}, {"40e00000", "00000000"}, {"00000000,00000001", "3f800000"}, {"80000000,3f800000", "3f800000"},
		{"3f800000,80000000,00000000", "00000000"}, {"00000001,00000001,00000001", "3f800000"}, {"7f7fffff", "00000000"}, {"7f7fffff,7f7fffff", "00000000"}, {"00000000,7f7fffff", "3f800000"},
		{"3f800000,40000000,40400000,40800000", "40000000"}, {"80000000,00000001,80000000", "3f800000"},
		// Here a last bit differs if an operation is not rounded on its own, or made in another order.
		{"3dad6fce,3e2fc851,3e0ecfbe,3f3651dd,3dd2f5f4", "401e80a7"}, {"3fb33a58,3d64fc94,3f3ce811,3f2fe7ef,3f85621f,3e5e117e,3e15c9b6,3e9d550c,3e07433a", "402f1fa9"},
		{"3f1bbf6f,3f8e6b39,3de870df,3e01eded,3da51d05,3db64e3a,3dd5d96c,3ed55179", "401188cd"}, {"3eb7c5de,3e8acaa3,3d806103,3f8a595b,3e2b2aea,3f64ca63,3e9ce8b8,3d8507b9,3d742cf3", "40624d8f"},
	} {
		got, ok := impl.CentreOfPowers(told(c[0]))
		wantSum(t, fmt.Sprint("CentreOfPowers ", c), got, ok, toldNumber(c[1]))
	}
	got, ok := impl.CentreOfPowers(repeat(float32(1), 64))
	wantSum(t, "CentreOfPowers of 64 equal ones", got, ok, 31.5)
	got, ok = impl.CentreOfPowers(append(repeat(float32(0), 63), 2))
	wantSum(t, "CentreOfPowers of the last one of 64", got, ok, 63)
}

func TestCentreOfPowersFails(t *testing.T) {
	for _, bad := range append(badPowers(), nil, []float32{}, []float32{0}, []float32{minus0}, []float32{0, minus0, 0}, repeat(float32(0), 64)) {
		got, ok := impl.CentreOfPowers(bad)
		wantFailed(t, fmt.Sprint("CentreOfPowers ", bad), got, ok)
	}
	// The sum of the products is infinite, or both sums are.
	for _, powers := range [][]float32{{0, 0, most}, {0, most, most}, {0, most / 2, most / 2, 0}, {most, 0, 0, most / 2}} {
		got, ok := impl.CentreOfPowers(powers)
		wantFailed(t, fmt.Sprint("CentreOfPowers ", powers), got, ok)
	}
}
