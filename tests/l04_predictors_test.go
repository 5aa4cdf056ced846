package tests

import (
	"fmt"
	"math"
	"strings"
	"testing"

	"loop.example/g01279/impl"
)

func TestValidPredictor(t *testing.T) {
	for _, p := range goodPredictors() {
		wantBool(t, fmt.Sprint("ValidPredictor ", p), impl.ValidPredictor(p), true)
	}
	for _, p := range badPredictors() {
		wantBool(t, fmt.Sprint("ValidPredictor ", p), impl.ValidPredictor(p), false)
	}
}

func TestSamePredictor(t *testing.T) {
	both := func() []impl.Predictor {
		list := []impl.Predictor{
			{}, predictorOf(1), predictorOf(minus0), predictorOf(nan), predictorOf(inf), predictorOf(1, 1), predictorOf(2, 1), predictorOf(1, 2), predictorOf(1, 1, 2), predictorOf(1, 2, 1), predictorOf(1, 1, 2, 3),
			predictorOf(1, 0), predictorOf(1, minus0), predictorOf(1, 0, 0), predictorOf(1, nan), predictorOf(1, inf), predictorOf(1, -inf), predictorOf(0, 0), predictorOf(minus0, 0), predictorOf(nan, 0),
		}
		for _, n := range []int{14, 15, 16, 17, 18, 31, 32, 33, 34, 300} {
			list = append(list, predictorOf(1, repeat(float32(0), n)...))
			for _, k := range []int{0, 1, n - 2, n - 1} {
				other := repeat(float32(0), n)
				other[k] = minus0
				list = append(list, predictorOf(1, other...))
			}
		}
		return list
	}
	list, again := both(), both()
	for i, a := range list {
		for j, b := range again {
			wantBool(t, fmt.Sprint("SamePredictor ", a, b), impl.SamePredictor(a, b), i == j)
		}
	}
	wantBool(t, "SamePredictor of nil and an empty list", impl.SamePredictor(impl.Predictor{}, impl.Predictor{Steps: []float32{}}), true)
	for _, bits := range otherNN {
		x := math.Float32frombits(bits)
		wantBool(t, "SamePredictor of not-a-numbers", impl.SamePredictor(predictorOf(x, 1, x), predictorOf(nan, 1, nan)), true)
	}
}

func TestLagsOf(t *testing.T) {
	zeros := strings.Repeat(",00000000", 16)
	for _, c := range []struct {
		sound string
		order int64
		want  string
	}{
		{"", 1, "00000000,00000000"}, {"", 16, "00000000" + zeros}, {"3f800000", 1, "3f800000,00000000"}, {"3f800000", 16, "3f800000" + zeros}, {"40000000,3f800000", 2, "40a00000,40000000,00000000"},
		{"40000000,3f800000", 1, "40a00000,40000000"}, {"80000000", 1, "00000000,00000000"}, {"3f800000,80000000", 1, "3f800000,00000000"},
		{"40400000,bf800000,40000000,c0a00000,40800000,3f000000,40e00000", 16, "42d08000,c1ec0000,42320000,c2540000,41cc0000,c0b00000,41a80000" + zeros[:90]},
		// The last bit tells in which order 64-bit numbers are added.
		{"3f800800,32000000,32000000,32000000,32000000", 1, "3f801000,32000800"}, {"32000000,32000000,32000000,32000000,3f800800", 1, "3f801001,32000800"}, {"3f800800,b2000000,00000000,3f800800", 1, "40001000,b2000800"},
		// Squares that are too small or too great for 32-bit numbers, or nearly.
		{"1a000000", 1, "00000000,00000000"}, {"1a800000,1a000000", 1, "00000002,00000001"}, {"5f7fffff", 1, "7f7ffffe,00000000"}, {"5f000000,5f000000,5f000000", 2, "7f400000,7f000000,7e800000"},
		{"5f000000,df000000,5f000000,5e800000", 3, "7f500000,fec00000,7e000000,7e000000"},
		// Here a last bit differs if 32-bit numbers are added.
		{"3fe6bf56,3fcba517,bfd58f25,3e615caa,bfab81fb", 2, "412688e5,bee5990b,bed81395"}, {"bfb6ffd6,402a18ad,c0362784", 3, "4189aa97,c135d390,40823621,00000000"},
		{"bfeb7103,bf920905,3f4308d7,3fb2185b,40082f5a", 3, "413baaf6,40a80074,bfaf0e00,c09f954b"},
	} {
		got, ok := impl.LagsOf(told(c.sound), c.order)
		wantNumbers(t, fmt.Sprint("LagsOf ", c), got, ok, c.want)
	}
	got, ok := impl.LagsOf(repeat(float32(1), 256), 16)
	wantNumbers(t, "LagsOf 256 numbers", got, ok, "43800000,437f0000,437e0000,437d0000,437c0000,437b0000,437a0000,43790000,43780000,43770000,43760000,43750000,43740000,43730000,43720000,43710000,43700000")
	got, ok = impl.LagsOf(repeat(float32(1), 17), 16)
	wantNumbers(t, "LagsOf 17 numbers", got, ok, "41880000,41800000,41700000,41600000,41500000,41400000,41300000,41200000,41100000,41000000,40e00000,40c00000,40a00000,40800000,40400000,40000000,3f800000")
}

func TestLagsOfFails(t *testing.T) {
	for _, bad := range badSounds() {
		got, ok := impl.LagsOf(bad, 1)
		wantNoList(t, fmt.Sprint("LagsOf ", bad), got, ok)
	}
	for _, sound := range [][]float32{nil, {1, 2}, repeat(float32(1), 256)} {
		for _, order := range badCounts(1, 16) {
			got, ok := impl.LagsOf(sound, order)
			wantNoList(t, fmt.Sprint("LagsOf with the order ", order), got, ok)
		}
	}
	for _, loud := range [][]float32{{0x1p64}, {most}, {0, -most}, repeat(float32(0x1p63), 4)} {
		got, ok := impl.LagsOf(loud, 1)
		wantNoList(t, fmt.Sprint("LagsOf ", loud), got, ok)
	}
}

// zeroLags are the bits of lags of which only the first one is something, and of as many zeros as others.
const zeroLags = "00000000,00000000,00000000,00000000,00000000,00000000,00000000,00000000,00000000,00000000,00000000,00000000,00000000,00000000,00000000,00000000"

func TestLadderOf(t *testing.T) {
	for _, c := range [][2]string{
		{"40800000,40000000", "3f000000"}, {"3f800000,3f7fffff", "3f7fffff"}, {"3f800000,bf7fffff", "bf7fffff"}, {"00000001,00000000", "00000000"}, {"3f800000,80000000", "80000000"}, {"00800000,00400000", "3f000000"},
		{"40000000,80000000,3f800000", "80000000,3f000000"}, {"7f7fffff,00000000,00000000", "00000000,00000000"}, {"3f800000,3f000000,3e800000,3e000000", "3f000000,00000000,00000000"},
		{"41000000,40800000,40000000,bf800000", "3f000000,00000000,beaaaaab"}, {"3f800000," + zeroLags, zeroLags},
		// Here a last bit differs if 32-bit numbers are used, if an operation is not rounded on its own, made in another order, or told with new steps.
		{"3fa09655,3f34d5ec,bea06d79,bf2b7987,bd5644ef,3f2c28c2", "3f1023b5,bf547105,3f6587ee,bf643bf6,bf464df5"}, {"3f8787de,3f12968f,beb34bd7,bf3a68f2,be875184,3eb15172,3e915b14", "3f0a7168,bf617a88,3f49b318,bf6b6538,bf498ab0,bf202542"},
		{"3fcb57a0,bf2ee5a2,beba81e5,3f18731f,bf95a181,3f86cd60,3efd9801", "bedc3042,bf021caa,3c4caa2c,bf7ffecb,3e85ce28,3ea14d99"}, {"402813e7,befd8e1e,400d9dec,bf590bd5,3f943fe5,bfa22e0c", "be411874,3f56361e,bef65044,bf7ffdeb,bc35cb66"},
		{"42bbf7a2,c06cd91a,c217b217,41abca24,4164b0c4,c15d99c9,c1d76feb,40aefac5,41d34ddf,c0681640,c0b74009,40d61e86,4133f7ba,3f7a2e4f,c14ee755,3fef1266,415462eb", "bd21494a,becfb756,3e69773a,bbfa4f20,3d1660f5,beb391cb,3bc5601b,3dea4882,3e27cd01,3def76c2,bd957965,3d32fff7,3d08809d,3d9419cb,3d284810,3da1a360"},
	} {
		got, ok := impl.LadderOf(told(c[0]))
		wantNumbers(t, fmt.Sprint("LadderOf ", c), got, ok, c[1])
	}
}

func TestLadderOfFails(t *testing.T) {
	for _, s := range []string{
		"3f800000,3f800000", "3f800000,bf800000", "3f800000,3f800001", "3f800000,c0000000", "00000001,00000001", "00000001,80000001", "7f7fffff,7f7fffff", "7f7fffff,ff7fffff", "00000001,7f7fffff",
		// The last one or the one in the middle reaches 1 or -1.
		"7f7fffff,7effffff,feffffff", "3f800000,3f000000,bf000000", "3f800000,3f000000,3f800000", "3f800000,3f800000,3f800000", "3f800000,3f800000,00000000", "3f800000,40000000,40000000", "3f800000,40000000,42c80000", "3f800000,bf800000,3f800000,00000000",
		// Only behind narrowing, it is -1.
		"3f800000,3f3504f3,b31302ad", "3f800000,3f3504f3,b31302ac",
		// It is nothing, or less.
		"00000000,00000000", "80000000,00000000", "00000000,3f800000", "80000000,80000000", "bf800000,00000000", "bf800000,3f000000", "80000001,00000000", "00000000," + zeroLags, "ff7fffff," + zeroLags,
		// There are too few, or too many.
		"", "3f800000", "3f800000,00000000," + zeroLags, "3f800000," + zeroLags + "," + zeroLags,
	} {
		got, ok := impl.LadderOf(told(s))
		wantNoList(t, fmt.Sprint("LadderOf ", s), got, ok)
	}
	for _, x := range badNumbers() {
		for _, lags := range [][]float32{{x, 0}, {1, x}, {1, x, 0}, {1, 0, x}, append(append([]float32{1}, repeat(float32(0), 15)...), x)} {
			got, ok := impl.LadderOf(lags)
			wantNoList(t, fmt.Sprint("LadderOf ", lags), got, ok)
		}
	}
}

func TestPredictorOf(t *testing.T) {
	for _, c := range [][2]string{
		{"40800000,40000000", "3f000000;3fddb3d7"}, {"3f800000,3f7fffff", "3f7fffff;39b504f3"}, {"3f800000,bf7fffff", "bf7fffff;39b504f3"}, {"00000001,00000000", "00000000;1a3504f3"}, {"3f800000,80000000", "80000000;3f800000"},
		{"00800000,00400000", "3f000000;1fddb3d7"}, {"40000000,80000000,3f800000", "00000000,3f000000;3f9cc471"}, {"7f7fffff,00000000,00000000", "00000000,00000000;5f7fffff"}, {"41000000,40800000,40000000,bf800000", "3f000000,3e2aaaab,beaaaaab;4013cd3a"},
		{"3f800000," + zeroLags, zeroLags + ";3f800000"},
		// Nothing is left: the Gain is 0.
		{"3f800000,3f800000", "3f800000;00000000"}, {"3f800000,bf800000", "bf800000;00000000"}, {"00000001,00000001", "3f800000;00000000"}, {"00000001,80000001", "bf800000;00000000"}, {"7f7fffff,7f7fffff", "3f800000;00000000"},
		{"7f7fffff,7effffff,feffffff", "3f800000,bf800000;00000000"}, {"3f800000,3f000000,bf000000", "3f800000,bf800000;00000000"}, {"3f800000,3f000000,3f800000", "00000000,3f800000;00000000"}, {"3f800000,3f3504f3,b31302ae", "3fb504f3,bf800000;00000000"},
		// So little is left that only the steps are rounded to those of nothing.
		{"3f800000,3f3504f3,b31302ad", "3fb504f3,bf800000;33b504f3"}, {"3f800000,3f3504f3,b31302ac", "3fb504f3,bf800000;34000000"},
		// Here a last bit differs if 32-bit numbers are used, if an operation is not rounded on its own, made in another order, or told with new steps.
		{"3f96cd22,bf8bbfe0,3f589163,bef4ce64,3d34c3ed", "c04c6a12,c07f0cbd,c0111d24,beff358b;3c4dc769"}, {"3ff999af,3f327981,bfb93cc0,bfdce5e6,3e53d53d", "3fb65e8a,c01fbaa3,3fb5b432,bf7e2252;3c2b9684"},
		{"40205b38,3f4390b9,bffc763d,bff3e5e1,3f27c01f,40061598,3f3fffaf", "3f0be831,bfbdf9b3,be179b6d,b93d0733,bf25ead2,3ea179c2;3be6438a"}, {"40108950,3fa64ed4,3f25189b,bec9f787,bfef8436,bfce91e4,bfd932df", "3ee1ba8f,3e2a6d7b,38c62481,bf6f5c70,3eb467dc,be6fbaef;3bdd0891"},
		{"405dfb67,c02c6597,3f5616bd,3f82a742,bff4101f,3fcb9edb,bf2bd68c", "bfe8c625,bf80a654,3eedd494,3e4f5cdd,bf31e2fa,bf231d9e;3be5b603"}, {"40038230,3f31fb9b,bf67be33,3deae641,3fdc7dee,3f40d4be,bf9e3bba", "3f7adcff,beef2c3d,3f165e9c,3e35a5d2,bd747641,bf00f034;3bcb1fd3"},
		{"42ae96bf,3feefa83,c1a6dbda,40a70d16,41c9faca,40bca266,c19ef66a,c0dd81b1,41b5abbf,41a4e948,c05f7d94,3e82ce6e,411a6f15,41632ead,c104b957,c13c9b88,4185b193", "bd62ba6d,be096048,3e096b78,3e6f9f32,3d037a90,be3778f9,be1bed1e,3dc605b6,3e88eca2,3e4473c7,3e0751ac,bdaf9ca3,bc97357b,bd8ae27a,bd10fc11,3e461c91;40fdf9d5"},
	} {
		got, ok := impl.PredictorOf(told(c[0]))
		wantPredictor(t, fmt.Sprint("PredictorOf ", c), got, ok, c[1])
	}
}

func TestPredictorOfFails(t *testing.T) {
	for _, s := range []string{
		// Less than nothing is left, or nothing for the next one.
		"3f800000,3f800001", "3f800000,bf800001", "3f800000,c0000000", "00000001,7f7fffff", "3f800000,3f3504f3,b31302af", "3f800000,3f800000,3f800000", "3f800000,3f800000,00000000", "3f800000,40000000,40000000", "3f800000,40000000,42c80000", "3f800000,bf800000,3f800000,00000000",
		"00000000,00000000", "80000000,00000000", "00000000,3f800000", "80000000,80000000", "bf800000,00000000", "bf800000,3f000000", "80000001,00000000", "00000000," + zeroLags, "ff7fffff," + zeroLags,
		"", "3f800000", "3f800000,00000000," + zeroLags, "3f800000," + zeroLags + "," + zeroLags,
	} {
		got, ok := impl.PredictorOf(told(s))
		wantNoPredictor(t, fmt.Sprint("PredictorOf ", s), got, ok)
	}
	for _, x := range badNumbers() {
		for _, lags := range [][]float32{{x, 0}, {1, x}, {1, x, 0}, {1, 0, x}, append(append([]float32{1}, repeat(float32(0), 15)...), x)} {
			got, ok := impl.PredictorOf(lags)
			wantNoPredictor(t, fmt.Sprint("PredictorOf ", lags), got, ok)
		}
	}
}

func TestStepUp(t *testing.T) {
	for _, c := range [][2]string{
		{"3f000000,3f000000", "3e800000,3f000000"}, {"3f7fffff", "3f7fffff"}, {"bf7fffff", "bf7fffff"}, {"3f7fffff,3f7fffff", "33800000,3f7fffff"}, {"80000000", "80000000"}, {"00000000,80000000,00000000", "00000000,80000000,00000000"},
		{"3f000000,bf000000,00000000", "3f400000,bf000000,00000000"}, {"00000001,80000001", "00000001,80000001"}, {zeroLags, zeroLags},
		// Here a last bit differs if a product is not rounded, or is told with new steps.
		{"3f485f0d,bf2e8132,bdb47c89,3f21da1b", "3fa7eba9,be55060e,bf61df81,3f21da1b"}, {"bf52a011,bf0334e3,3eddca89,3ef0005e,3f71c431", "bfd58678,bf58fd1e,3f662d4b,3fd023ca,3f71c431"},
		{"be85e549,3eb02ce6,be0495a7,3ef4a51b,3e9a5742,3ee64b48,3e04d7bc,be37f21c,bda8b246,be68e5cf,3ea9bdcf,be628c69,3e15f17d,bebb2202,3e9a236c,3db48506", "bdc2e142,bdcaab48,3e4a19df,3efde1a8,3e28e3c2,3f04cc1a,be60e326,3e06aa66,be79ab3c,3c6113f8,3dbe934d,be911904,3d9b7fe1,be99e3be,3e9d3c35,3db48506"},
	} {
		got, ok := impl.StepUp(told(c[0]), 3)
		wantPredictor(t, fmt.Sprint("StepUp ", c), got, ok, c[1]+";40400000")
	}
	for _, c := range []struct {
		r    float32
		want string
	}{
		{belowOne, "c15fffff,c2b3fffe,c3aefffc,c4637ff8,c4ccbff9,c4fa3ff7,c4b2bffa,38000000,44b2bffa,44fa3ff7,44ccbff9,44637ff8,43aefffb,42b3fffd,415ffffe,3f7fffff"},
		{-belowOne, "c17fffff,c2effffe,c40bfffd,c4e37ff8,c5887ffb,c5fa3ff8,c632bffa,c64917fa,c632bffa,c5fa3ff7,c5887ffb,c4e37ff8,c40bfffd,c2effffd,c17ffffe,bf7fffff"},
		{0.5, "c0500000,c0de0000,c1348000,c16b7000,c1776800,c146fa00,c0bdce00,401423c0,411d1c00,41671400,41748000,414e8000,410e0000,409c0000,40000000,3f000000"},
	} {
		wantNumbers(t, fmt.Sprint("StepUp of 16 times ", c.r), manySteps(t, c.r), true, c.want)
	}
	for _, gain := range []float32{0, minus0, least, 1, most} {
		got, ok := impl.StepUp([]float32{0.5}, gain)
		wantPredictor(t, fmt.Sprint("StepUp with the gain ", gain), got, ok, "3f000000;"+bitsText([]float32{gain}))
	}
}

func TestStepUpFails(t *testing.T) {
	for _, bad := range badLadders() {
		got, ok := impl.StepUp(bad, 1)
		wantNoPredictor(t, fmt.Sprint("StepUp ", bad), got, ok)
	}
	for _, gain := range append(badNumbers(), -least, -1, -most) {
		got, ok := impl.StepUp([]float32{0.5, 0.25}, gain)
		wantNoPredictor(t, fmt.Sprint("StepUp with the gain ", gain), got, ok)
	}
}

func TestStepDown(t *testing.T) {
	for _, c := range [][2]string{
		{"3e800000,3f000000", "3f000000,3f000000"}, {"3f7fffff", "3f7fffff"}, {"bf7fffff", "bf7fffff"}, {"80000000", "80000000"}, {"00000000,80000000,00000000", "00000000,00000000,00000000"}, {"3f400000,bf000000,00000000", "3f000000,bf000000,00000000"},
		{"00000001,80000001", "00000001,80000001"}, {"bf000000,bf7fffff", "be800000,bf7fffff"}, {"00000000,3f7fffff", "00000000,3f7fffff"}, {"80000000,3f000000", "80000000,3f000000"}, {"00000000,bf000000", "00000000,bf000000"},
		{"3a83126f,bf7fffff", "3a800000,bf7fffff"}, {"b3800000,00000000,3f7fffff", "beaaaaab,beffffff,3f7fffff"}, {zeroLags, zeroLags},
		// Here a last bit differs if an operation is not rounded on its own, made otherwise, or told with new steps.
		{"bf266b44,3f7c93d6,3ef90cf5,bf5cc69b,bf0478da,3d986a10", "bf3c2771,3eea43a9,3ea2db6a,bf17318d,bf11a9f5,3d986a10"}, {"3ed539ff,bf8c74da,3ef5778a,bf5d8bfb", "be4d3abb,bf4146fb,3ef2b9c5,bf5d8bfb"},
		{"3f2db170,3e4f61cc,beec8113,3e7defee,bf022431,3f3f39b6,beb6bc3b,be65ce64,3f0ce575,bf51a538,3efceb7c,be37ae2a,bd8d9dc0,3e68674a,bf06cd29,3e7efc1e", "3e6130d4,3ec7fbe5,be4b73a1,be057ac9,bd57410c,3ec581f9,bde30b5b,befd6a69,3e935a62,bedb70a9,3e39fb11,bd489d5b,be9db0d8,3daf80b8,bec33450,3e7efc1e"},
	} {
		for _, gain := range []float32{0, minus0, 1, most} {
			got, ok := impl.StepDown(predictorOf(gain, told(c[0])...))
			wantNumbers(t, fmt.Sprint("StepDown ", c), got, ok, c[1])
		}
	}
	got, ok := impl.StepDown(predictorOf(1, manySteps(t, 0.5)...))
	wantNumbers(t, "StepDown of 16 steps", got, ok, bitsText(repeat(float32(0.5), 16)))
}

func TestStepDownFails(t *testing.T) {
	for _, bad := range badPredictors() {
		got, ok := impl.StepDown(bad)
		wantNoList(t, fmt.Sprint("StepDown ", bad), got, ok)
	}
	for _, steps := range [][]float32{
		{1}, {-1}, {aboveOne}, {-aboveOne}, {2}, {most}, {-most}, {0, 1}, {0, -1}, {0, aboveOne}, {0, 0, -2}, append(repeat(float32(0), 15), 1), append(repeat(float32(0), 15), -1),
		// A number of the ladder reaches 1 or -1 only in the end.
		{1, 0}, {-1, 0}, {0.75, 0.25}, {-0.75, 0.25}, {0.5, belowOne}, {1.5, -0.5}, {3, -2.5, 0.9}, {2.5, -2.1, 0.6}, {0, 1, 0}, append([]float32{1}, repeat(float32(0), 15)...),
		// The numbers on the way are infinite, or not numbers.
		{most, 0.5}, {-most, 0.5}, {most, most, 0.5}, {most, -most, belowOne}, {0, most, 0, 0, belowOne},
	} {
		got, ok := impl.StepDown(predictorOf(1, steps...))
		wantNoList(t, fmt.Sprint("StepDown ", steps), got, ok)
	}
	for _, r := range []float32{belowOne, -belowOne} {
		got, ok := impl.StepDown(predictorOf(1, manySteps(t, r)...))
		wantNoList(t, fmt.Sprint("StepDown of StepUp of 16 times ", r), got, ok)
	}
}

func TestDampPredictor(t *testing.T) {
	for _, c := range [][3]string{
		{"3f800000,c0000000,80000000,40400000", "00000000", "00000000,80000000,80000000,00000000"}, {"3f800000,c0000000,80000000,40400000", "3f800000", "3f800000,c0000000,80000000,40400000"},
		{"3f800000,c0000000,80000000,40400000", "80000000", "80000000,80000000,00000000,00000000"}, {"3f800000,c0000000,80000000,40400000", "3f000000", "3f000000,bf000000,80000000,3e400000"},
		{"3f800000,c0000000,80000000,40400000", "00000001", "00000001,80000000,80000000,00000000"}, {"3f800000,c0000000,80000000,40400000", "3f7fffff", "3f7fffff,bffffffe,80000000,403ffffc"},
		{"7f7fffff,7f7fffff,7f7fffff,ff7fffff", "3f400000", "7f3fffff,7f0fffff,7ed7fffe,fea1fffe"}, {"00000001,00000001,00000001", "3f400000", "00000001,00000001,00000001"}, {"00000001,00000001,00000001", "3f000000", "00000000,00000000,00000000"},
		// Here a last bit differs if not each product is rounded, or they are made in another order.
		{"bfba7b45,3f41daca,3febefad,3fc97bf7,3fce6ed7,bfb711e1", "3e7f64af", "beba0a21,3d40efd8,3cea4343,3bc794bb,3acbff95,b9b47b67"}, {"3f08afd0,3f804bdc,c02bd3bb", "3f042d61", "3e8d25c4,3e88ce8d,bebd3467"},
		{"be0d9a7e,bf546dea,bf5988c9,40043195,3f1dae19,bf34169f", "3e756c94", "bd07c0ea,bd433d7a,bc3fac26,3bdf54da,39ff6241,b90bd04a"},
	} {
		for _, gain := range []string{"00000000", "80000000", "40400000", "7f7fffff"} {
			got, ok := impl.DampPredictor(toldPredictor(c[0]+";"+gain), toldNumber(c[1]))
			wantPredictor(t, fmt.Sprint("DampPredictor ", c), got, ok, c[2]+";"+gain)
		}
	}
	got, ok := impl.DampPredictor(predictorOf(1, repeat(float32(1), 16)...), 0.5)
	for k := range 16 {
		if want := float32(math.Ldexp(1, -k-1)); !ok || len(got.Steps) != 16 || got.Steps[k] != want {
			t.Fatalf("DampPredictor of 16 steps: got %v %v, want %v at %d", got, ok, want, k)
		}
	}
	for _, bad := range badPredictors() {
		got, ok := impl.DampPredictor(bad, 0)
		wantNoPredictor(t, fmt.Sprint("DampPredictor ", bad), got, ok)
	}
	for _, keep := range badShares() {
		got, ok := impl.DampPredictor(predictorOf(1, 0.5), keep)
		wantNoPredictor(t, fmt.Sprint("DampPredictor with keep ", keep), got, ok)
	}
}

func TestMixLadders(t *testing.T) {
	for _, c := range [][4]string{
		{"3f000000", "bf000000", "3e800000", "3e800000"}, {"3f000000", "bf000000", "80000000", "3f000000"}, {"3f000000", "bf000000", "00000000", "3f000000"}, {"3f000000", "bf000000", "3f800000", "bf000000"}, {"80000000", "80000000", "3f800000", "00000000"},
		{"3f7fffff", "bf7fffff", "00000000", "3f7fffff"}, {"3f7fffff", "bf7fffff", "3f800000", "bf7fffff"}, {"bf7fffff", "3f7fffff", "3f800000", "3f7fffff"}, {"3f7fffff", "bf7fffff", "3f000000", "00000000"}, {"b3000000", "3f7fffff", "3f7fffff", "3f7ffffe"},
		// Here a last bit differs if a product is not rounded, or the sum is made otherwise.
		{"bd86da9f,be640280", "3f42a059,3ea6783d", "3e52ad49", "3dd53a97,bde1337e"}, {"3ec887ec,3efbeff9", "bf18ce1b,3eaf61b1", "3f4d2231", "becd0a9c,3ebe97d0"}, {"3f226735,3c898cd7,beff14f4", "bdbabd97,3dbee7d3,3f341a67", "3e4e7ccc", "3ef9e554,3d03e5ed,be8302a2"},
		{"3f5c9f39,3f47e65f,3f09bf79", "bf6c0bf8,3e8f7b3b,3ed4637f", "3f78674e", "bf5e7ee5,3e971657,3ed642e3"}, {"3d438a1f,3ec57f8e", "3f1b601c,3f5883c3", "3f026278", "3eaa437c,3f1eba99"},
	} {
		got, ok := impl.MixLadders(told(c[0]), told(c[1]), toldNumber(c[2]))
		wantNumbers(t, fmt.Sprint("MixLadders ", c), got, ok, c[3])
	}
	got, ok := impl.MixLadders(repeat(float32(0.5), 16), repeat(float32(-0.5), 16), 0.5)
	wantNumbers(t, "MixLadders of 16 numbers", got, ok, zeroLags)
}

func TestMixLaddersFails(t *testing.T) {
	for _, bad := range badLadders() {
		good := repeat(float32(0.5), len(bad))
		for _, share := range []float32{0, 0.5, 1} {
			got, ok := impl.MixLadders(bad, good, share)
			wantNoList(t, fmt.Sprint("MixLadders ", bad, good, share), got, ok)
			got, ok = impl.MixLadders(good, bad, share)
			wantNoList(t, fmt.Sprint("MixLadders ", good, bad, share), got, ok)
		}
	}
	for _, share := range badShares() {
		got, ok := impl.MixLadders([]float32{0, 0.5}, []float32{0, 0.25}, share)
		wantNoList(t, fmt.Sprint("MixLadders with the share ", share), got, ok)
	}
	for _, pair := range [][2][]float32{{{0.5}, {0.5, 0.25}}, {{0.5, 0.25}, {0.5}}, {{0.5}, nil}, {nil, {0.5}}, {repeat(float32(0), 16), repeat(float32(0), 15)}} {
		got, ok := impl.MixLadders(pair[0], pair[1], 0)
		wantNoList(t, fmt.Sprint("MixLadders ", pair), got, ok)
	}
	// The sum is rounded to 1 or -1, so there is no ladder.
	for _, sign := range []float32{1, -1} {
		got, ok := impl.MixLadders([]float32{0, -sign * 0x1p-25}, []float32{0, sign * belowOne}, 1)
		wantNoList(t, fmt.Sprint("MixLadders that reaches ", sign), got, ok)
	}
}

func TestAreasOfPredictor(t *testing.T) {
	for _, c := range [][3]string{
		{"3f000000", "40400000", "40400000,3f800000"}, {"bf000000", "3f800000", "3f800000,40400000"}, {"3f7fffff", "3f800000", "3f800000,33000000"}, {"bf7fffff", "3f800000", "3f800000,4c000000"}, {"3f7fffff", "02081cea", "02081cea,00000002"},
		{"00000000", "7f7fffff", "7f7fffff,7f7fffff"}, {"00000000", "00000001", "00000001,00000001"}, {"3e800000,3f000000", "41100000", "41100000,40400000,3f800000"}, {"80000000,80000000", "3dcccccd", "3dcccccd,3dcccccd,3dcccccd"},
		{zeroLags[:134], "40000000", strings.Repeat("40000000,", 15) + "40000000"},
		{"bebfe946,be8aec35,bf5e2cc5", "3f2fa601", "3f2fa601,40885a41,402ed739,421a7aad"}, {"3dfb80ec,bde66750,3cf280f0,3f51d0cb", "402fdb92", "402fdb92,40007aca,40d09f78,4034310e,3e8eec9a"}, {"3f27854d", "407dcfc1", "407dcfc1,3f541950"},
		{"3cda5c58,be3a0cd5,3ea8cbde,3d86c009,3e87c1c9,bd4459a8,3e957696,3c8829f8,3e980cab,be0f80fc,3ee9b281,bd43dbbc,3e8b8a52,be9cc2db,bebe09d1", "3f0da1fa", "3f0da1fa,3ea61262,3e31203d,3dafeb72,3d2ab00a,3ca4063c,3ca4a6cf,3c602468,3c3a4c85,3bc02fa2,3c1a7327,3b949d4c,3bb3e44f,3b1f28e6,3babafa2,3c3b2e55"},
	} {
		got, ok := impl.AreasOfPredictor(toldPredictor(c[0]+";00000000"), toldNumber(c[1]))
		wantNumbers(t, fmt.Sprint("AreasOfPredictor ", c), got, ok, c[2])
	}
}

func TestAreasOfPredictorFails(t *testing.T) {
	for _, bad := range append(badPredictors(), predictorOf(1, repeat(float32(0), 16)...), predictorOf(1, 1), predictorOf(1, -1), predictorOf(1, 0.75, 0.25), predictorOf(1, most, 0.5)) {
		got, ok := impl.AreasOfPredictor(bad, 1)
		wantNoList(t, fmt.Sprint("AreasOfPredictor ", bad), got, ok)
	}
	for _, area := range append(badNumbers(), 0, minus0, -least, -1, -most) {
		got, ok := impl.AreasOfPredictor(predictorOf(1, 0.5), area)
		wantNoList(t, fmt.Sprint("AreasOfPredictor with the area ", area), got, ok)
	}
	// An area is rounded to 0, or is infinite, also on the way to others.
	for _, c := range []struct {
		ladder []float32
		area   float32
	}{{[]float32{0.5}, least}, {[]float32{belowOne, 0}, 1e-38}, {[]float32{-0.5}, most}, {[]float32{-belowOne}, 0x1p104}, {[]float32{-0.5, belowOne}, most}, {[]float32{belowOne, belowOne, -belowOne}, 1e-37}} {
		p, _ := impl.StepUp(c.ladder, 1)
		got, ok := impl.AreasOfPredictor(p, c.area)
		wantNoList(t, fmt.Sprint("AreasOfPredictor ", c), got, ok)
	}
}
