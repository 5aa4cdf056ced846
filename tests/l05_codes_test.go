package tests

import (
	"fmt"
	"math"
	"strings"
	"testing"

	"loop.example/g01279/impl"
)

// lastOfCodes are the bits of the greatest numbers that have the codes 128, 129 and so on up to 254.
const lastOfCodes = "" +
	"38b584a5,398b2a72,39ed233a,3a29bda9,3a5f3266,3a8b84ef,3aa8afad,3ac727a5,3ae6fbc1,3b041dbf,3b157b8e,3b279fca,3b3a9349,3b4e5f50,3b630d87,3b78a805,3b879cab,3b93663f,3b9fb681,3bac9370,3bba0359,3bc80cc3,3bd6b694,3be607e9," +
	"3bf60842,3c035fb4,3c0c1ac8,3c15399a,3c1ec0a1,3c28b482,3c331a1a,3c3df67a,3c494ef4,3c552907,3c618a8d,3c6e7980,3c7bfc3e,3c850caa,3c8c6bd7,3c941f3b,3c9c2aa0,3ca491e7,3cad5937,3cb684cd,3cc01932,3cca1b03,3cd48f2d,3cdf7ac2," +
	"3ceae321,3cf6cdd0,3d01a057,3d0820df,3d0eebb8,3d160424,3d1d6da7,3d252bd3,3d2d427c,3d35b58a,3d3e8927,3d47c196,3d516368,3d5b733c,3d65f60e,3d70f0ef,3d7c694a,3d843255,3d8a747c,3d90fe20,3d97d27b,3d9ef4d8,3da668bd,3dae31c3," +
	"3db653c7,3dbed2ab,3dc7b2a6,3dd0f800,3ddaa74d,3de4c53b,3def56c6,3dfa610a,3e02f4bc,3e08fad0,3e0f45bd,3e15d88a,3e1cb675,3e23e2d1,3e2b6127,3e333518,3e3b627e,3e43ed46,3e4cd9b3,3e562c07,3e5fe8e8,3e6a1502,3e74b55b,3e7fcf15," +
	"3e85b3d6,3e8bc25b,3e921618,3e98b21b,3e9f99a6,3ea6d00e,3eae58e4,3eb637cf,3ebe70a8,3ec7076a,3ed00054,3ed95fbc,3ee32a3f,3eed6499,3ef813d6,3f019e8f,3f0772fa,3f0d89fb,3f13e696,3f1a8bdb,3f217d12,3f28bd96,3f3050f9,3f383aeb," +
	"3f407f48,3f492214,3f522791,3f5b9419,3f656c54,3f6fb503,3f7a7338"

// numbersOfCodes are the bits of FromCode of 128, 129 and so on up to 255.
const numbersOfCodes = "" +
	"00000000,39378586,39bb9dee,3a0fe020,3a442d55,3a7ad018,3a99f18e,3ab7c119,3ad6e53d,3af76d2d,3b0cb462,3b1e7454,3b30ff11,3b445da4,3b589988,3b6dbc97,3b81e893,3b8d70fd,3b997d2b,3ba612ff,3bb3389f,3bc0f472,3bcf4d31,3bde49d8," +
	"3bedf1ba,3bfe4c7c,3c07b10c,3c109d74,3c19efcf,3c23acab,3c2dd8c8,3c38791d,3c4392df,3c4f2b71,3c5b4881,3c67eff6,3c752802,3c817b8a,3c88b1f4,3c903ac8,3c9819b0,3ca05286,3ca8e94c,3cb1e233,3cbb41a0,3cc50c1f,3ccf467f,3cd9f5b9," +
	"3ce51f05,3cf0c7d6,3cfcf5de,3d04d787,3d0b7ccf,3d126e03,3d19ae8c,3d2141ed,3d292bdd,3d317037,3d3a1305,3d43187e,3d4c850a,3d565d42,3d60a5f4,3d6b6425,3d769d19,3d812b20,3d874aac,3d8db02e,3d945ec5,3d9b59b4,3da2a462,3daa4261," +
	"3db23769,3dba8759,3dc33641,3dcc485e,3dd5c21e,3ddfa820,3de9ff3b,3df4cc79,3e000a91,3e05ef5a,3e0c177a,3e1285f3,3e193de9,3e2042a0,3e279786,3e2f4030,3e37405e,3e3f9bf3,3e485705,3e5175d8,3e5afce2,3e64f0bf,3e6f565a,3e7a32b7," +
	"3e82c59a,3e88b2a3,3e8ee365,3e955ade,3e9c1c3d,3ea32ac7,3eaa89f5,3eb23d57,3eba48bc,3ec2b009,3ecb7753,3ed4a2f0,3ede3753,3ee83922,3ef2ad4e,3efd98e3,3f0480a2,3f0a75f9,3f10af67,3f172ff0,3f1dfac6,3f251332,3f2c7cb5,3f343ae2," +
	"3f3c518b,3f44c49e,3f4d9835,3f56d0ab,3f607272,3f6a824e,3f750518,3f800000"

func wantCode(t *testing.T, x float32, want int64) {
	t.Helper()
	got, ok := impl.CodeOf(x)
	if !ok || got != want {
		t.Errorf("CodeOf %v (%08x): got %d %v, want %d", x, bitsOf(x), got, ok, want)
	}
}

func TestCodeOf(t *testing.T) {
	for _, c := range []struct {
		x    float32
		want int64
	}{
		{0, 128}, {minus0, 128}, {1, 255}, {-1, 1}, {2, 255}, {-2, 1}, {most, 255}, {-most, 1}, {least, 128}, {-least, 128}, {0.5, 239}, {-0.5, 17}, {belowOne, 255}, {-belowOne, 1}, {aboveOne, 255}, {-aboveOne, 1},
		{0.1, 203}, {-0.1, 53}, {0.01, 157}, {-0.01, 99}, {0x1p-10, 133}, {-0x1p-10, 123}, {normal, 128}, {-normal, 128}, {0x1p100, 255}, {-0x1p100, 1},
	} {
		wantCode(t, c.x, c.want)
	}
	for _, bad := range badNumbers() {
		got, ok := impl.CodeOf(bad)
		wantFailed(t, fmt.Sprint("CodeOf ", bad), got, ok)
	}
}

// Here a code differs if an operation is not rounded on its own, or made with other numbers.
func TestCodesEndWhereTold(t *testing.T) {
	for n, x := range told(lastOfCodes) {
		wantCode(t, x, 128+int64(n))
		wantCode(t, oneAbove(x), 129+int64(n))
		wantCode(t, -x, 128-int64(n))
		wantCode(t, -oneAbove(x), 127-int64(n))
	}
}

// These lie just between two integers, and so the even one is taken.
func TestCodesOfTiesAreEven(t *testing.T) {
	for _, c := range []struct {
		x    string
		want int64
	}{
		{"39ed232c", 130}, {"3ae6fbbf", 136}, {"3b879cab", 144}, {"3b9fb680", 146}, {"3bac9371", 148}, {"3bba0356", 148}, {"3bc80cc4", 150}, {"3bf6083f", 152}, {"3c035fb5", 154}, {"3c28b483", 158}, {"3c494ef1", 160},
		{"3c552908", 162}, {"3c618a8a", 162}, {"3c6e7981", 164}, {"3c7bfc3e", 164}, {"3c850cab", 166}, {"3c8c6bd7", 166}, {"3c941f3c", 168}, {"3c9c2a9e", 168}, {"3ca491e8", 170}, {"3cad5935", 170}, {"3cb684ce", 172},
		{"3cc01931", 172}, {"3cca1b04", 174}, {"3cd48f2b", 174}, {"3cdf7ac3", 176}, {"3ceae31e", 176}, {"3cf6cdd1", 178}, {"3d01a055", 178}, {"3d0820e0", 180}, {"3d0eebb7", 180}, {"3d160425", 182}, {"3d1d6da5", 182},
		{"3d252bd4", 184}, {"3d2d427a", 184}, {"3d35b58b", 186}, {"3d3e8924", 186}, {"3d47c197", 188}, {"3d516365", 188}, {"3d5b733d", 190}, {"3d65f60b", 190}, {"3d70f0f0", 192}, {"3d7c6947", 192}, {"3d843256", 194},
		{"3d8a747b", 194}, {"3d90fe21", 196}, {"3d97d279", 196}, {"3d9ef4d9", 198}, {"3da668bc", 198}, {"3dae31c4", 200}, {"3db653c2", 200}, {"3dbed2ac", 202}, {"3dc7b2a4", 202}, {"3dd0f801", 204}, {"3ddaa74b", 204},
		{"3de4c53c", 206}, {"3def56c3", 206}, {"3dfa610b", 208}, {"3e02f4ba", 208}, {"3e08fad1", 210}, {"3e0f45bb", 210}, {"3e15d88b", 212}, {"3e1cb673", 212}, {"3e23e2d2", 214}, {"3e2b6125", 214}, {"3e333519", 216},
		{"3e3b6279", 216}, {"3e43ed47", 218}, {"3e4cd9ae", 218}, {"3e562c08", 220}, {"3e5fe8e2", 220}, {"3e6a1503", 222}, {"3e7fcf16", 224}, {"3e8bc25c", 226}, {"3e98b21c", 228}, {"3ea6d00f", 230}, {"3eb637d0", 232},
		{"3ebe70a3", 232}, {"3ec7076b", 234}, {"3ed0004f", 234}, {"3ed95fbd", 236}, {"3ee32a39", 236}, {"3eed649a", 238}, {"3ef813cf", 238}, {"3f019e90", 240}, {"3f0772f6", 240}, {"3f0d89fc", 242}, {"3f1a8bdc", 244},
		{"3f28bd97", 246}, {"3f407f43", 248}, {"3f492215", 250}, {"3f52278b", 250}, {"3f5b941a", 252}, {"3f656c4e", 252}, {"3f6fb504", 254}, {"3f7a7331", 254},
	} {
		wantCode(t, toldNumber(c.x), c.want)
		wantCode(t, -toldNumber(c.x), 256-c.want)
	}
}

func TestFromCode(t *testing.T) {
	list := told(numbersOfCodes)
	for n, want := range list {
		got, ok := impl.FromCode(128 + int64(n))
		wantSum(t, fmt.Sprint("FromCode ", 128+n), got, ok, want)
		if n > 0 {
			got, ok = impl.FromCode(128 - int64(n))
			wantSum(t, fmt.Sprint("FromCode ", 128-n), got, ok, -want)
		}
	}
	for code, want := range map[int64]float32{0: -1, 1: -1, 2: -list[126], 127: -list[1], 128: 0, 129: list[1], 254: list[126], 255: 1} {
		got, ok := impl.FromCode(code)
		wantSum(t, fmt.Sprint("FromCode ", code), got, ok, want)
	}
	for _, code := range append(badCounts(0, 255), -127, -128, -129, -255, -256, 257, 1<<32+128, 1<<40) {
		got, ok := impl.FromCode(code)
		wantFailed(t, fmt.Sprint("FromCode ", code), got, ok)
	}
}

func TestCodeSound(t *testing.T) {
	for _, c := range []struct {
		sound []float32
		want  string
	}{
		{nil, ""}, {[]float32{}, ""}, {[]float32{0, 1}, "\x80\xff"}, {[]float32{minus0, -1, 2, -most}, "\x80\x01\xff\x01"}, {[]float32{0.5, -0.5, 0.1, -0.1}, "\xef\x11\xcb\x35"}, {[]float32{least}, "\x80"}, {repeat(float32(-0.5), 256), strings.Repeat("\x11", 256)},
		{repeat(float32(0.5), 256), strings.Repeat("\xef", 256)}, {repeat(float32(1), 255), strings.Repeat("\xff", 255)},
	} {
		got, ok := impl.CodeSound(c.sound)
		wantText(t, fmt.Sprint("CodeSound ", c.sound), got, ok, c.want)
	}
	all := append(told(lastOfCodes), told(numbersOfCodes)...)
	got, ok := impl.CodeSound(all)
	wantText(t, "CodeSound of numbers of all codes", got, ok, codesOf(t, all))
	for _, bad := range badSounds() {
		got, ok := impl.CodeSound(bad)
		wantFailed(t, fmt.Sprint("CodeSound ", bad), got, ok)
	}
}

func TestFromCodes(t *testing.T) {
	list := told(numbersOfCodes)
	for _, c := range []struct {
		codes string
		want  []float32
	}{
		{"", nil}, {"\x80", []float32{0}}, {"\x00\x01\x80\xff", []float32{-1, -1, 0, 1}}, {"\x7f\x81", []float32{-list[1], list[1]}}, {"az", []float32{-list[31], -list[6]}}, {"\xe9\xc3\xa9", []float32{list[0x69], list[0x43], list[0x29]}},
		{"\xff\xfe\xfd", []float32{1, list[126], list[125]}}, {strings.Repeat("\xff", 256), repeat(float32(1), 256)}, {strings.Repeat("\x00", 256), repeat(float32(-1), 256)}, {strings.Repeat("\x80", 255), repeat(float32(0), 255)},
	} {
		got, ok := impl.FromCodes(c.codes)
		wantNumbers(t, fmt.Sprintf("FromCodes %q", c.codes), got, ok, bitsText(c.want))
	}
	all, want := []byte{}, []float32{}
	for code := range int64(256) {
		x, _ := impl.FromCode(code)
		all, want = append(all, byte(code)), append(want, x)
	}
	got, ok := impl.FromCodes(string(all))
	wantNumbers(t, "FromCodes of all bytes", got, ok, bitsText(want))
	for _, bad := range []string{strings.Repeat("\x80", 257), strings.Repeat("a", 257), string(all) + "\x80", strings.Repeat("\xff", 1000)} {
		got, ok := impl.FromCodes(bad)
		wantNoList(t, fmt.Sprintf("FromCodes %q", bad), got, ok)
	}
}

func TestWorstCoded(t *testing.T) {
	for _, c := range [][2]string{
		{"00000000", "00000000"}, {"80000000", "00000000"}, {"3f800000", "00000000"}, {"bf800000", "00000000"}, {"40000000", "3f800000"}, {"c0400000", "40000000"}, {"7f7fffff", "7f7fffff"}, {"ff7fffff", "7f7fffff"},
		{"00000000,3f000000", "3b99c740"}, {"3f000000,00000000", "3b99c740"}, {"3f000000,bf400000", "3c6b9d40"}, {"00000001", "00000001"}, {"80000001", "00000001"}, {"3fc00000,c0000000", "3f800000"},
		{"00000000,80000000,00000000", "00000000"}, {"3f7fffff", "33800000"},
		// Here a last bit differs if the difference is told otherwise.
		{"bf329549,bf0fea81", "3bd2cc80"}, {"bf7d7f54,be4afa4b,bf7ed6db", "3c202b00"}, {"bf430d61", "3bdb9e80"}, {"3f29cd8a,bf3ff2e9,3ed3891f,beddd34d", "3c685780"}, {"becbd7ec", "3a413200"},
	} {
		got, ok := impl.WorstCoded(told(c[0]))
		wantSum(t, fmt.Sprint("WorstCoded ", c), got, ok, toldNumber(c[1]))
	}
	list := make([]float32, 256)
	for k := range list {
		list[k] = float32(k) / 256
	}
	got, ok := impl.WorstCoded(list)
	wantSum(t, "WorstCoded of 256 numbers", got, ok, toldNumber("3ca0a300"))
	for _, bad := range append(badSounds(), nil, []float32{}) {
		got, ok := impl.WorstCoded(bad)
		wantFailed(t, fmt.Sprint("WorstCoded ", bad), got, ok)
	}
}

// Codes and numbers lead back to one another, nearly: from -1 to 1, a number is not farther away from that of its code than codes are from one another.
func TestCodesLeadBack(t *testing.T) {
	for code := range int64(256) {
		x, ok := impl.FromCode(code)
		if !ok {
			t.Fatalf("FromCode %d failed", code)
		}
		wantCode(t, x, max(code, 1))
	}
	for k := -1000; k <= 1000; k++ {
		x := float32(k) / 1000
		code, _ := impl.CodeOf(x)
		back, ok := impl.FromCode(code)
		if far := math.Abs(float64(back) - float64(x)); !ok || far > 0.0223*math.Abs(float64(x))+0.0001 {
			t.Errorf("FromCode of CodeOf %v: got %v %v", x, back, ok)
		}
	}
}
