package tests

import (
	"fmt"
	"math"
	"strings"
	"testing"

	"loop.example/g01279/impl"
)

func TestPredictAt(t *testing.T) {
	ones := strings.Repeat("3f800000,", 15) + "3f800000"
	twenty := "3f800000,40000000,40400000,40800000,40a00000,40c00000,40e00000,41000000,41100000,41200000,41300000,41400000,41500000,41600000,41700000,41800000,41880000,41900000,41980000,41a00000"
	for _, c := range []struct {
		steps, sound string
		n            int64
		want         string
	}{
		{"3f000000", "", 0, "00000000"}, {"3f000000", "3f800000,3f000000,3e800000", 0, "00000000"}, {"3f000000", "3f800000,3f000000,3e800000", 1, "3f000000"}, {"3f000000", "3f800000,3f000000,3e800000", 2, "3e800000"},
		{"3f000000", "3f800000,3f000000,3e800000", 3, "3e000000"}, {"3f800000,40000000,40400000", "41200000,41a00000,41f00000,42200000", 0, "00000000"}, {"3f800000,40000000,40400000", "41200000,41a00000,41f00000,42200000", 1, "41200000"},
		{"3f800000,40000000,40400000", "41200000,41a00000,41f00000,42200000", 2, "42200000"}, {"3f800000,40000000,40400000", "41200000,41a00000,41f00000,42200000", 3, "42c80000"}, {"3f800000,40000000,40400000", "41200000,41a00000,41f00000,42200000", 4, "43200000"},
		{ones, twenty, 15, "42f00000"}, {ones, twenty, 16, "43080000"}, {ones, twenty, 17, "43180000"}, {ones, twenty, 20, "43480000"},
		// Sums begin with +0.
		{"bf800000", "00000000", 1, "00000000"}, {"00000000", "bf800000", 1, "00000000"}, {"bf800000", "80000000", 1, "00000000"},
		{"7f7fffff", "3f800000", 1, "7f7fffff"}, {"00000001", "3f000000", 1, "00000000"}, {"00000001", "3f400000", 1, "00000001"}, {"7f7fffff", "40000000", 0, "00000000"}, {"7f7fffff", "3f800000,40000000", 1, "7f7fffff"},
		// Here a last bit differs if a product is not rounded before it is added, or the sum goes in another order.
		{"3ff9a5b7,bf313202,bf955b77,400d24e2", "c00e02b2,c03c87ee,3fb19bea,3f24eac1,3fbe25a7,403f2753,be902330", 4, "bf948212"}, {"bef8feef,3fb3c84b,bfe8ed44,c039be63,3e1197c0", "be8ffeb9,c00eded0,bfd0cd4e,402c6757,3f4b0c72", 4, "3fa37de4"},
		{"400c7786,3fab1077", "3fe05190,bf985e3d,bfb34e35,bf29ef1a,bf99fe23,bf8ebad6", 2, "be8a8388"}, {"bf99b244,bf70197b,4018c5c8,c0382bb7,3fc732c1", "3f8ee83e,3ff18855,3f4ea87b,bfebb33f,c02b146a", 4, "402fb615"},
	} {
		for _, gain := range []float32{0, 1, most} {
			got, ok := impl.PredictAt(predictorOf(gain, told(c.steps)...), told(c.sound), c.n)
			wantSum(t, fmt.Sprint("PredictAt ", c), got, ok, toldNumber(c.want))
		}
	}
	got, ok := impl.PredictAt(predictorOf(1, 0, 1), repeat(float32(3), 256), 256)
	wantSum(t, "PredictAt the end of 256 numbers", got, ok, 3)
}

func TestPredictAtFails(t *testing.T) {
	for _, bad := range badPredictors() {
		got, ok := impl.PredictAt(bad, []float32{1, 2}, 0)
		wantFailed(t, fmt.Sprint("PredictAt ", bad), got, ok)
	}
	for _, bad := range badSounds() {
		got, ok := impl.PredictAt(predictorOf(1, 0), bad, 0)
		wantFailed(t, fmt.Sprint("PredictAt ", bad), got, ok)
	}
	for _, sound := range [][]float32{nil, {1}, {1, 2, 3}, repeat(float32(1), 256)} {
		for _, n := range badCounts(0, int64(len(sound))) {
			got, ok := impl.PredictAt(predictorOf(1, 0.5, 0.5), sound, n)
			wantFailed(t, fmt.Sprint("PredictAt ", n, " of ", len(sound)), got, ok)
		}
		got, ok := impl.PredictAt(predictorOf(1, 0.5, 0.5), roomy(sound...), int64(len(sound)+1))
		wantFailed(t, fmt.Sprint("PredictAt behind the end of ", len(sound), " with unused capacity"), got, ok)
	}
	// A product or a sum on the way is infinite, or the last one.
	for _, c := range []struct{ steps, sound []float32 }{
		{[]float32{most}, []float32{2}}, {[]float32{-most}, []float32{1, 2}}, {[]float32{1, 1}, []float32{most, most}}, {[]float32{1, 1, -1}, []float32{most, most, most}}, {[]float32{2, -2}, []float32{most, most}}, {[]float32{2, 0}, []float32{0, most}},
	} {
		got, ok := impl.PredictAt(predictorOf(1, c.steps...), c.sound, int64(len(c.sound)))
		wantFailed(t, fmt.Sprint("PredictAt ", c), got, ok)
	}
}

func TestResidueOf(t *testing.T) {
	last := strings.Repeat("00000000,", 15) + "3f800000"
	counted := "3f800000,40000000,40400000,40800000,40a00000,40c00000,40e00000,41000000,41100000,41200000,41300000,41400000,41500000,41600000,41700000,41800000"
	for _, c := range [][3]string{
		{"3f000000", "", ""}, {"3f000000", "3f800000,3f000000,3e800000", "3f800000,00000000,00000000"}, {"3f800000", "40400000,40400000,40400000", "40400000,00000000,00000000"}, {"00000000", "80000000,00000000,40a00000", "80000000,00000000,40a00000"},
		{"80000000", "80000000,80000000", "80000000,80000000"}, {"3f800000,3f800000", "3f800000,3f800000,40000000,40400000,40a00000,41000000", "3f800000,00000000,00000000,00000000,00000000,00000000"},
		{last, counted + ",41880000,41900000", counted + ",41800000,41800000"}, {"7f7fffff", "3f800000,7f7fffff", "3f800000,00000000"}, {"bf800000", "7f7fffff,00000000", "7f7fffff,7f7fffff"}, {"3f800000", "7f7fffff,7f7fffff", "7f7fffff,00000000"},
		// Here a last bit differs if an operation is not rounded on its own, or made in another order.
		{"bfe58963,bf4000d4,3ffb5ea3", "bfbb1fe3,c038ea4f,c0199045,bfe5d744,3f2f7aa9", "bfbb1fe3,c0b05920,c10ad58d,c0ac9fba,3fab8278"}, {"c038de6d,3fedb4be,402c0a13", "4028f15b,3f4066d3,c019694f,bf759bb2", "4028f15b,410606b0,c0a41ad6,c1830033"},
		{"3fa28658,bfde97e5,3eff5af5,3f714a19", "bfd7c0d4,c00d6b94,40394b1f,3fb50484,3fdcde45,c01fb4b9,beaa1053", "bfd7c0d4,bd8e4aa0,40314278,c0a87222,40f4f993,bfcb4d2e,4019c8ce"},
	} {
		for _, gain := range []float32{0, 1, most} {
			got, ok := impl.ResidueOf(predictorOf(gain, told(c[0])...), told(c[1]))
			wantNumbers(t, fmt.Sprint("ResidueOf ", c), got, ok, c[2])
		}
	}
	got, ok := impl.ResidueOf(predictorOf(1, 1), repeat(float32(3), 256))
	wantNumbers(t, "ResidueOf 256 numbers", got, ok, "40400000"+strings.Repeat(",00000000", 255))
}

func TestMakeAgain(t *testing.T) {
	last := strings.Repeat("00000000,", 15) + "3f800000"
	counted := "3f800000,40000000,40400000,40800000,40a00000,40c00000,40e00000,41000000,41100000,41200000,41300000,41400000,41500000,41600000,41700000,41800000"
	for _, c := range [][3]string{
		{"3f000000", "", ""}, {"3f000000", "3f800000,00000000,00000000", "3f800000,3f000000,3e800000"}, {"3f000000", "3f800000,3f000000,3e800000", "3f800000,3f800000,3f400000"}, {"3f800000", "40400000,40400000,40400000", "40400000,40c00000,41100000"},
		{"00000000", "80000000,00000000,40a00000", "00000000,00000000,40a00000"}, {"80000000", "80000000,80000000", "00000000,00000000"}, {"3f800000,3f800000", "3f800000,00000000,00000000,00000000,00000000,00000000", "3f800000,3f800000,40000000,40400000,40a00000,41000000"},
		{last, counted + ",41880000,41900000", counted + ",41900000,41a00000"}, {"bf800000", "7f7fffff,00000000", "7f7fffff,ff7fffff"}, {"bf800000", "7f7fffff,7f7fffff", "7f7fffff,00000000"},
		// Here a last bit differs if an operation is not rounded on its own, or made in another order.
		{"c01923b5,3ebf32f9,bef2e821,bea82868", "40396762,c008ce80,3fb624c7,bf29b43c,c036d249,3ed4e811,bd034fe3", "40396762,c1111c46,41c1a624,c27d60ec,43211b03,c3d09e8c,4487134e"}, {"bfb8bbea,c02e555d", "bf8fcf17,3e0ac58f,bf0529f8,bfa49a93", "bf8fcf17,3fe0e583,3b91c400,c0c2823a"},
		{"4012e6ca,bf4b62ef,c03194ed,bf88e942", "3cdaec48,3fdef467,c036a9fa,40074707,c02bcdb4,4011ad4e", "3cdaec48,3fe6ce69,3fa1bb80,4060762b,bf2b8060,c0ef712f"},
	} {
		for _, gain := range []float32{0, 1, most} {
			got, ok := impl.MakeAgain(predictorOf(gain, told(c[0])...), told(c[1]))
			wantNumbers(t, fmt.Sprint("MakeAgain ", c), got, ok, c[2])
		}
	}
	got, ok := impl.MakeAgain(predictorOf(1, 1), append([]float32{3}, repeat(float32(0), 255)...))
	wantNumbers(t, "MakeAgain of 256 numbers", got, ok, "40400000"+strings.Repeat(",40400000", 255))
}

func TestDrivePredictor(t *testing.T) {
	for _, c := range [][3]string{
		{"3f000000;40000000", "3f800000,00000000", "40000000,3f800000"}, {"3f000000;00000000", "3f800000,40000000,c0400000", "00000000,00000000,00000000"}, {"3f000000;80000000", "3f800000,40000000", "00000000,00000000"},
		{"3f800000;7f7fffff", "3f800000,00000000,bf800000", "7f7fffff,7f7fffff,00000000"}, {"3f000000;3f000000", "", ""}, {"3f800000,3f800000;3f800000", "3f800000,00000000,00000000,00000000,00000000", "3f800000,3f800000,40000000,40400000,40a00000"},
		{strings.Repeat("00000000,", 15) + "3f800000;40400000", "3f800000" + strings.Repeat(",00000000", 17), "40400000" + strings.Repeat(",00000000", 15) + ",40400000,00000000"},
		// Here a last bit differs if an operation is not rounded on its own, or made in another order.
		{"c0243266,c026b201;3fa36538", "3f3e9fc0,c0378470,c012e234,bfb1e36c,bfb11e39", "3f73562c,c0c32b70,4123dfae,c142a504,40312472"}, {"bffb595d,3ff15fcb,4008f163;3f4a0416", "bf8a1a92,bf36238b,3f054e5f,3ffc7c5f,c00a115f", "bf59f657,3f8e2323,c05802ce,41074dd0,c1b25fb5"},
		{"bf1c142d,bf959f97,bfe6939d,bfd26d3c;3fc6dadc", "be736adf,c0395d20,3fabf211,4006945a,40116ce0,bf91bdc1", "bebd14c3,c088c806,40a3fd26,40b9bbb2,4013b600,c142a48d"},
	} {
		got, ok := impl.DrivePredictor(toldPredictor(c[0]), told(c[1]))
		wantNumbers(t, fmt.Sprint("DrivePredictor ", c), got, ok, c[2])
	}
	got, ok := impl.DrivePredictor(predictorOf(0.5, 1), append([]float32{3}, repeat(float32(0), 255)...))
	wantNumbers(t, "DrivePredictor with 256 numbers", got, ok, "3fc00000"+strings.Repeat(",3fc00000", 255))
}

func TestResiduesAndSoundsOfThemFail(t *testing.T) {
	functions := map[string]func(impl.Predictor, []float32) ([]float32, bool){"ResidueOf": impl.ResidueOf, "MakeAgain": impl.MakeAgain, "DrivePredictor": impl.DrivePredictor}
	for name, f := range functions {
		for _, bad := range badPredictors() {
			for _, sound := range [][]float32{nil, {0}, {1, 2}} {
				got, ok := f(bad, sound)
				wantNoList(t, fmt.Sprint(name, " ", bad, sound), got, ok)
			}
		}
		for _, bad := range badSounds() {
			for _, gain := range []float32{0, 1} {
				got, ok := f(predictorOf(gain, 0), bad)
				wantNoList(t, fmt.Sprint(name, " ", bad, gain), got, ok)
			}
		}
	}
	// A product, a sum or a number is infinite, or not a number, on the way or in the end.
	for _, c := range []struct {
		name  string
		p     impl.Predictor
		sound []float32
	}{
		{"ResidueOf", predictorOf(1, -1), []float32{most, most}}, {"ResidueOf", predictorOf(1, 2), []float32{most, 0}}, {"ResidueOf", predictorOf(1, 1, 1, -1), []float32{most, most, most, most}}, {"ResidueOf", predictorOf(1, 2), []float32{most, most}},
		{"MakeAgain", predictorOf(1, 1), []float32{most, most}}, {"MakeAgain", predictorOf(1, 2), []float32{most, -most}}, {"MakeAgain", predictorOf(1, 1, 1, -1), []float32{most, 0, -math.MaxFloat32, 0}}, {"MakeAgain", predictorOf(1, most), []float32{1, 1, 0}},
		{"MakeAgain", predictorOf(1, 1, -2), []float32{0x1p127, 0x1p126, -0x1p127}}, {"MakeAgain", predictorOf(1, 2), append([]float32{1}, repeat(float32(0), 128)...)},
		{"DrivePredictor", predictorOf(2, 0), []float32{most}}, {"DrivePredictor", predictorOf(most, 0), []float32{0, 2}}, {"DrivePredictor", predictorOf(1, 1), []float32{most, most}}, {"DrivePredictor", predictorOf(2, -2), []float32{0x1p126, most}},
	} {
		got, ok := functions[c.name](c.p, c.sound)
		wantNoList(t, fmt.Sprint(c), got, ok)
	}
	// What is made of all numbers but the last ones is finite.
	got, ok := impl.MakeAgain(predictorOf(1, 2), append([]float32{1}, repeat(float32(0), 127)...))
	if !ok || len(got) != 128 || got[127] != 0x1p127 {
		t.Errorf("MakeAgain up to 2 to the power of 127: got %v %v", got, ok)
	}
}

func TestLadderResidue(t *testing.T) {
	for _, c := range [][3]string{
		{"3f000000", "", ""}, {"3f000000", "3f800000,3f000000,3e800000", "3f800000,00000000,00000000"}, {"3f000000,3f000000", "3f800000,3e800000,3f100000", "3f800000,00000000,00000000"},
		{"bf000000,3e800000", "3f800000,00000000,00000000,00000000", "3f800000,3ec00000,be800000,00000000"}, {"00000000", "80000000,00000000,80000000", "80000000,00000000,80000000"}, {"80000000", "80000000,80000000", "00000000,80000000"},
		{"3f7fffff", "3f800000,3f800000,3f800000", "3f800000,33800000,33800000"}, {"3f000000", "7f7fffff,7e4ccccc", "7f7fffff,fe999999"},
		{strings.Repeat("3e800000,", 15) + "3e800000", "3f800000" + strings.Repeat(",00000000", 17), "3f800000,3f300000,3f430000,3f426000,3f2c3f00,3f020260,3e907244,3cbd76b0,be722107,beeda34f,bf2208a7,bf39c550,bf3cbd80,bf2cd000,bf0e8000,bed00000,be800000,00000000"},
		// Here a last bit differs if a product is not rounded before it is taken away, if new numbers are used for old ones, or steps for the ladder.
		{"3f4e409a,3e50c4f6", "bfd01edf,bfc990d2,bfce147e", "bfd01edf,bf0825da,be897280"}, {"3d031898,bdfb8e02,bdc97ea7,be8d80de", "3e84862e,3fbacb2e,3f15f34b", "3e84862e,3fbae77f,3f21497a"},
		{"be83d871,3f342e11,3ef7f32c,3ebb1e44", "bf0fff7f,3fafd01e,403d6f96,bebc9c1e", "bf0fff7f,3f8509c8,40814a8f,3f8d23d4"}, {"be98839a,3f21c989,bf703c40", "bfa7f084,3ffa5351,c03d2911,3fcb9a51,3f888792", "bfa7f084,4025c1c7,c04d3d6a,3f40e6e8,406c9761"},
		{"bec31b4e,3d082d39,3f120824,bf60870b,beba64b0", "3fb2a925,bf85d55e,3faeee1b,401b3228,c00e4a39", "3fb2a925,bf41ef13,3ecabd59,402df875,bf61508a"},
	} {
		got, ok := impl.LadderResidue(told(c[0]), told(c[1]))
		wantNumbers(t, fmt.Sprint("LadderResidue ", c), got, ok, c[2])
	}
	got, ok := impl.LadderResidue([]float32{0, 0.5}, repeat(float32(2), 256))
	wantNumbers(t, "LadderResidue of 256 numbers", got, ok, "40000000,40000000"+strings.Repeat(",3f800000", 254))
}

func TestLadderResidueFails(t *testing.T) {
	for _, bad := range badLadders() {
		for _, sound := range [][]float32{nil, {0}, {1, 2}} {
			got, ok := impl.LadderResidue(bad, sound)
			wantNoList(t, fmt.Sprint("LadderResidue ", bad, sound), got, ok)
		}
	}
	for _, bad := range badSounds() {
		got, ok := impl.LadderResidue([]float32{0}, bad)
		wantNoList(t, fmt.Sprint("LadderResidue ", bad), got, ok)
	}
	for _, c := range []struct{ ladder, sound []float32 }{
		{[]float32{0.5}, []float32{most, -most}}, {[]float32{-0.5, 0}, []float32{most, most}}, {[]float32{-0.5, 0.5}, []float32{0, most, most, 0}}, {[]float32{0, 0.5}, []float32{most, 0, -most}},
		// Only what is made beside the number is infinite: behind the last one of the ladder, or before it, in the last number or before it.
		{[]float32{0.5}, []float32{most, -0.2 * math.MaxFloat32}}, {[]float32{0.5, 0}, []float32{most, -0.2 * math.MaxFloat32}}, {[]float32{0.5}, []float32{most, -0.2 * math.MaxFloat32, 0}}, {[]float32{0, 0.5}, []float32{most, 0, -0.2 * math.MaxFloat32}},
	} {
		got, ok := impl.LadderResidue(c.ladder, c.sound)
		wantNoList(t, fmt.Sprint("LadderResidue ", c), got, ok)
	}
}

func TestPredictorResponse(t *testing.T) {
	for _, c := range [][3]string{
		{"3f000000;40000000", "00000000", "40800000,00000000"}, {"3f000000;40000000", "80000000", "40800000,00000000"}, {"3f000000;40000000", "3e800000", "3fcccccd,bf4ccccd"}, {"3f000000;40000000", "3f000000", "3faaaaab,00000000"},
		{"3f000000;40000000", "be800000", "3fcccccd,3f4ccccd"}, {"3f000000;3f800000", "3f400000", "3f4ccccd,3ecccccd"}, {"3f000000;00000000", "3e000000", "00000000,00000000"}, {"3f000000;80000000", "3e000000", "00000000,00000000"},
		{"bf000000;3f800000", "00000000", "3f2aaaab,00000000"}, {"bf000000;3f800000", "3f000000", "40000000,00000000"}, {"3f800000;3f800000", "3f000000", "3f000000,00000000"}, {"00000000;3f800000", "3e99999a", "3f800000,00000000"},
		{"80000000;3f800000", "3e99999a", "3f800000,00000000"}, {zeroLags + ";40400000", "3e99999a", "40400000,00000000"}, {"3e800000,bf000000,3e000000;3fc00000", "3eaaaaab", "3f924924,bf7d5fd0"},
		{"3f000000;3f800000", "00000001", "40000000,00000000"}, {"3f000000;3f800000", "80000001", "40000000,0000000c"}, {"00000001;00000001", "3dcccccd", "00000001,80000000"}, {"7f7fffff;7f7fffff", "3dcccccd", "bf4f1bbd,bf167918"},
		// Turns that have no places behind the point, or only half turns.
		{"3f000000;3f800000", "7f7fffff", "40000000,00000000"}, {"3f000000,3e800000;3f800000", "7effffff", "40800000,00000000"}, {"3f000000;3f800000", "59000000", "40000000,00000000"}, {"3f000000;3f800000", "59800000", "40000000,00000000"},
		{"3f000000;3f800000", "4a800001", "3f2aaaab,00000000"},
		{strings.Repeat("3dcccccd,", 15) + "3dcccccd;3f400000", "3d17f62b", "3eda8995,be7842a2"},
		// Here a last bit differs if the product of the turn or the sum is not rounded, or goes in another order.
		{"beaef79f,3dabd009,c021bbcf;3fc872e1", "bdb7ca4e", "3e4479a9,bf077754"}, {"3f88635d,c0325f06;3eea20d8", "3f2b5aef", "3aec009c,3e0e0217"}, {"bf8bce9c,3ec406ea,bf7d4629,3f54d28e;4038bff7", "bffd194c", "3fc10937,3be8caf0"},
		{"3e58ead5,c03aadbb,be125eb1;3ffa45cd", "3f8ef02b", "3e626438,3f19347c"}, {"4030f5d9,3ff8e1cc,bf97f48b;3f9ef4b3", "bfae58a5", "3e98a74c,bcfb28a3"},
	} {
		got, ok := impl.PredictorResponse(toldPredictor(c[0]), toldNumber(c[1]))
		want := told(c[2])
		wantComplexSum(t, fmt.Sprint("PredictorResponse ", c), got, ok, complex(want[0], want[1]))
	}
}

func TestPredictorResponseFails(t *testing.T) {
	for _, bad := range badPredictors() {
		got, ok := impl.PredictorResponse(bad, 0.1)
		wantFailed(t, fmt.Sprint("PredictorResponse ", bad), got, ok)
	}
	for _, turn := range badNumbers() {
		for _, step := range []float32{0, 0.5} {
			got, ok := impl.PredictorResponse(predictorOf(0, step), turn)
			wantFailed(t, fmt.Sprint("PredictorResponse at ", turn), got, ok)
		}
	}
	// A turn, the sum or the quotient is infinite, or not a number.
	for _, c := range []struct {
		p    impl.Predictor
		turn float32
	}{
		{predictorOf(1, 0.5, 0.5), most}, {predictorOf(0, 0.5, 0), -most}, {predictorOf(1, 0, 0, 0), 0x1p127}, {predictorOf(1, 1), 0}, {predictorOf(0, 1), 0}, {predictorOf(1, -1), 0.5}, {predictorOf(1, most, most), 0},
		{predictorOf(0, -math.MaxFloat32, -math.MaxFloat32), 0}, {predictorOf(1, -math.MaxFloat32, -math.MaxFloat32, most), 0}, {predictorOf(most, belowOne), 0},
	} {
		got, ok := impl.PredictorResponse(c.p, c.turn)
		wantFailed(t, fmt.Sprint("PredictorResponse ", c), got, ok)
	}
}

func TestPredictionGain(t *testing.T) {
	for _, c := range [][3]string{
		{"3f000000", "3f800000,3f000000", "3fa00000"}, {"3f000000", "3f800000", "3f800000"}, {"00000000", "40400000,40800000", "3f800000"}, {"76800000", "26800000,00000000", "00000000"},
		// Here a last bit differs if an energy or a residue is not rounded, or made otherwise.
		{"40225019,3fc1e965", "c01eb234,3ea02587,3fe10fa3", "3e04c4e1"}, {"400b4d02,3e995304,3f561d78", "be70569b,bffa9c83,c0266402,3fdafe7a,3f540ab3", "3e4b4734"}, {"3ff400f4,c01bfd22", "bff37400,403212f0,bee63e59,be6fa5d8", "3d655a84"},
		{"bf8c47ad,c03a19de,401004c2", "403c746b,3fa572ae,4015d749", "3db325cd"}, {"3f8a72cd,c035da45,bed3ae4f", "bfdc9e45,3f43a8ab,bffcf8dd,3fd10428,c018b329,400d0c22", "3da2e6bd"},
	} {
		for _, gain := range []float32{0, 1, most} {
			got, ok := impl.PredictionGain(predictorOf(gain, told(c[0])...), told(c[1]))
			wantSum(t, fmt.Sprint("PredictionGain ", c), got, ok, toldNumber(c[2]))
		}
	}
	got, ok := impl.PredictionGain(predictorOf(1, 1), repeat(float32(1), 256))
	wantSum(t, "PredictionGain of 256 numbers", got, ok, 256)
}

func TestPredictionGainFails(t *testing.T) {
	for _, bad := range badPredictors() {
		got, ok := impl.PredictionGain(bad, []float32{1, 2})
		wantFailed(t, fmt.Sprint("PredictionGain ", bad), got, ok)
	}
	for _, bad := range badSounds() {
		got, ok := impl.PredictionGain(predictorOf(1, 0), bad)
		wantFailed(t, fmt.Sprint("PredictionGain ", bad), got, ok)
	}
	// Nothing is left, also because squares are rounded to 0; or an energy, a residue or the quotient is infinite.
	for _, c := range []struct {
		step  float32
		sound []float32
	}{
		{0.5, nil}, {0.5, []float32{}}, {0.5, []float32{0, 0}}, {0.5, []float32{minus0}}, {0.5, []float32{1e-30}}, {0x1p124, []float32{0x1p-74, 0x1p50}}, {0x1p124, []float32{0x1p-76, 0x1p48}}, {0, []float32{0x1p64}},
		{1, []float32{0x1p64, 0x1p64}}, {2, []float32{0x1p63, 0x1p64}}, {-2, []float32{0x1p63, 0}}, {-2, []float32{most, 0}},
	} {
		got, ok := impl.PredictionGain(predictorOf(1, c.step), c.sound)
		wantFailed(t, fmt.Sprint("PredictionGain ", c), got, ok)
	}
}
