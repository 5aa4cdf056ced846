package tests

import (
	"fmt"
	"math"
	"slices"
	"testing"

	"loop.example/g01279/impl"
)

func TestValidTune(t *testing.T) {
	for _, tune := range goodTunes() {
		wantBool(t, fmt.Sprint("ValidTune ", tune), impl.ValidTune(tune), true)
	}
	for _, tune := range badTunes() {
		wantBool(t, fmt.Sprint("ValidTune ", tune), impl.ValidTune(tune), false)
	}
}

func TestSameTune(t *testing.T) {
	odd := []impl.Tune{tuneOf(nan, inf, minus0, accentOf(nan, inf, 0)), tuneOf(-1, 2, nan, accentOf(minus0, nan, -inf), accentOf(1, 2, 3))}
	for _, tune := range slices.Concat(goodTunes(), badTunes(), odd) {
		wantBool(t, fmt.Sprint("SameTune of the same ", tune), impl.SameTune(tune, toldTune(tuneText(tune))), true)
		others := []impl.Tune{tuneOf(tune.Base, tune.Fall, tune.Rise, append(slices.Clone(tune.Accents), accentOf(1, 4, 2))...)}
		if len(tune.Accents) > 0 {
			others = append(others, tuneOf(tune.Base, tune.Fall, tune.Rise, tune.Accents[:len(tune.Accents)-1]...))
		}
		for _, n := range changedNumbers([]float32{tune.Base, tune.Fall, tune.Rise}) {
			others = append(others, tuneOf(n[0], n[1], n[2], tune.Accents...))
		}
		for k, a := range tune.Accents[:min(len(tune.Accents), 9)] {
			for _, n := range changedNumbers([]float32{a.At, a.Size, a.Wide}) {
				accents := slices.Clone(tune.Accents)
				accents[k] = accentOf(n[0], n[1], n[2])
				others = append(others, tuneOf(tune.Base, tune.Fall, tune.Rise, accents...))
			}
		}
		for _, other := range others {
			wantBool(t, fmt.Sprint("SameTune ", tune, other), impl.SameTune(tune, other), false)
			wantBool(t, fmt.Sprint("SameTune ", other, tune), impl.SameTune(other, tune), false)
		}
	}
	for _, bits := range otherNN {
		x := math.Float32frombits(bits)
		wantBool(t, "SameTune of not-a-numbers", impl.SameTune(tuneOf(x, x, x, accentOf(x, x, x)), tuneOf(nan, nan, nan, accentOf(nan, nan, nan))), true)
	}
	wantBool(t, "SameTune of nil and no accents", impl.SameTune(impl.Tune{}, impl.Tune{Accents: []impl.Accent{}}), true)
	a, b := accentOf(1, 4, 2), accentOf(2, 4, 1)
	wantBool(t, "SameTune of accents in another order", impl.SameTune(tuneOf(1, 0, 0, a, b), tuneOf(1, 0, 0, b, a)), false)
}

func TestAddAccent(t *testing.T) {
	tune := tuneOf(100, 0.5, -40)
	for count := range 8 {
		// At is neither in order nor different.
		a := accentOf(float32(5*count%7), float32(count)-3, float32(1+count%2))
		want := tuneOf(100, 0.5, -40, append(slices.Clone(tune.Accents), a)...)
		got, ok := impl.AddAccent(tune, a)
		wantTune(t, fmt.Sprint("AddAccent of the ", count+1, "th one"), got, ok, tuneText(want))
		tune = want
	}
	got, ok := impl.AddAccent(tune, accentOf(1, 4, 2))
	wantNoTune(t, "AddAccent of the 9th one", got, ok)
	for _, tune := range goodTunes() {
		if len(tune.Accents) == 8 {
			continue
		}
		for _, a := range goodAccents() {
			got, ok := impl.AddAccent(tune, a)
			wantTune(t, fmt.Sprint("AddAccent of ", a, " to ", tune), got, ok, tuneText(tune)+";"+accentText(a))
		}
		for _, a := range badAccents() {
			got, ok := impl.AddAccent(tune, a)
			wantNoTune(t, fmt.Sprint("AddAccent of ", a, " to ", tune), got, ok)
		}
	}
	for _, tune := range badTunes() {
		got, ok := impl.AddAccent(tune, accentOf(1, 4, 2))
		wantNoTune(t, fmt.Sprint("AddAccent to ", tune), got, ok)
	}
}

func TestMoveTune(t *testing.T) {
	for _, c := range [][3]float32{
		{100, 2, 200}, {100, 1, 100}, {100, 0.5, 50}, {3, 0.1, toldNumber("3e99999a")}, {7, toldNumber("3eaaaaab"), toldNumber("40155556")}, {most, 1, most}, {1, most, most}, {least, 1, least}, {1, least, least}, {2, 0.5 * most, most},
		{0.75, least, least}, {0.5 + 0x1p-24, least, least}, {least, 0.75, least}, {least, most, least * most}, {most, least, least * most}, {most, belowOne, oneBelow(most)},
	} {
		for _, accents := range [][]impl.Accent{nil, goodAccents(), repeat(accentOf(1, 4, 2), 8)} {
			got, ok := impl.MoveTune(tuneOf(c[0], 0.5, -40, accents...), c[1])
			wantTune(t, fmt.Sprint("MoveTune ", c[0], " by ", c[1]), got, ok, tuneText(tuneOf(c[2], 0.5, -40, accents...)))
		}
	}
	bad := [][2]float32{{100, 0}, {100, minus0}, {100, -1}, {100, -least}, {0.5, least}, {least, 0.5}, {least, 0.25}, {0x1p-100, 0x1p-50}, {most, 2}, {most, aboveOne}, {2, most}, {0x1p64, 0x1p64}}
	for _, by := range badNumbers() {
		bad = append(bad, [2]float32{100, by})
	}
	for _, c := range bad {
		got, ok := impl.MoveTune(tuneOf(c[0], 0.5, 40, accentOf(1, 4, 2)), c[1])
		wantNoTune(t, fmt.Sprint("MoveTune ", c[0], " by ", c[1]), got, ok)
	}
	for _, tune := range badTunes() {
		for _, by := range []float32{1, -1, 0.5} {
			got, ok := impl.MoveTune(tune, by)
			wantNoTune(t, fmt.Sprint("MoveTune ", tune, " by ", by), got, ok)
		}
	}
}

func TestBumpAt(t *testing.T) {
	cases := [][3]string{
		{"bfe3cab3,41eb93b0,3fb41a8b", "bfdb454e", "41ea85ff"},
		{"bf723d57,408434df,3fa81be7", "bff0a4e6", "3f814ee4"},
		{"40123896,4139a9ec,3f91e3b4", "40365f05", "40d3541c"},
		{"bff836ca,418d1957,3ed7784b", "c00e15cd", "40ad80e3"},
		{"40443224,c15cfc89,3fbbcb63", "40910af1", "b4c37975"},
		{"3ef08117,410fe7db,40663c50", "bfa91b2d", "40a2d57c"},
		{"3fed7bd7,c1d1fc3a,3fd2a315", "4046ea91", "c09482b2"},
		{"40ae1514,c029c6e5,3eff7118", "40a33f0e", "bf45881b"},
		{"40a60483,c1bbe165,3fdabe5f", "4088d508", "c14030db"},
		{"bda17883,c1229e93,3fbd09ff", "3e70c74a", "c1144068"},
		{"bfc3548f,c1056b4a,401a8235", "bf24e7d8", "c0c8618c"},
		{"4016b96a,c189261a,3ff8cb39", "3f973830", "c0dd7aa7"},
		{"bf480c11,41611247,3f5364c7", "bcdffb75", "3ec68fca"},
		{"3fb27b09,40f1a538,40149a1f", "bf3554ba", "3e7a42c2"},
		{"40134708,41c5a19b,3f6bf5f7", "402f14d9", "416f26c5"},
	}
	for _, c := range cases {
		got, ok := impl.BumpAt(toldAccent(c[0]), toldNumber(c[1]))
		wantSum(t, fmt.Sprint("BumpAt ", c[0], " ", c[1]), got, ok, toldNumber(c[2]))
	}
	for _, c := range []struct {
		at, size, wide, time, want float32
	}{
		{1, 4, 2, 1, 4}, {1, 4, 2, 2, 2.25}, {1, 4, 2, 0, 2.25}, {1, 4, 2, 2.5, 0.765625}, {1, 4, 2, -0.5, 0.765625}, {1, -4, 2, 2, -2.25}, {1, -4, 2, 1, -4}, {0, 8, 1, 0.5, 4.5}, {0, 8, 1, minus0, 8}, {minus0, 8, 1, 0, 8},
		// At its ends, and beyond them.
		{1, 4, 2, 3, 0}, {1, 4, 2, -1, 0}, {1, 4, 2, 4, 0}, {1, 4, 2, -2, 0}, {1, -4, 2, 3, 0}, {1, -4, 2, 4, 0}, {1, 4, 2, most, 0}, {1, 4, 2, -most, 0}, {1, -4, 2, most, 0}, {0, 1, 1, belowOne, 0x1p-46}, {0, -1, 1, -belowOne, -0x1p-46}, {0, 1, 1, aboveOne, 0},
		// Differences and quotients that are infinite.
		{-most, 4, 1, most, 0}, {most, 4, 1, -most, 0}, {-most, 4, most, most, 0}, {-most, -4, most, most, 0}, {0, 4, least, 1, 0}, {0, 4, least, least, 0}, {0, 4, least, 0, 4}, {0, 4, normal, 0x1p-127, 2.25}, {1, 4, least, 1, 4}, {0, 4, 0.5, most, 0},
		// Quotients whose squares are nothing beside 1, or infinite.
		{0, 4, most, 1, 4}, {0, 4, most, -1, 4}, {0, 4, 1, 0x1p-12, 4 - 0x1p-21}, {0, 4, 1, 0x1p-13, 4}, {0, 4, 1, 0x1p-30, 4}, {0, 4, 0x1p-100, 1, 0}, {0, 4, 1, 0x1p64, 0},
		// Sizes at their limits, which are multiplied one by one.
		{1, 0, 2, 1, 0}, {1, minus0, 2, 1, minus0}, {1, minus0, 2, 2, minus0}, {1, minus0, 2, 4, 0}, {1, most, 2, 1, most}, {1, -most, 2, 1, -most}, {1, least, 2, 2, least}, {1, -least, 2, 2, -least}, {1, 3 * least, 2, 2, 2 * least}, {1, 2 * least, 2, 2, 2 * least}, {0, least, 2, 1.5, 0}, {0, -least, 2, 1.5, minus0},
	} {
		got, ok := impl.BumpAt(accentOf(c.at, c.size, c.wide), c.time)
		wantSum(t, fmt.Sprint("BumpAt ", c), got, ok, c.want)
	}
	for _, a := range goodAccents() {
		got, ok := impl.BumpAt(a, a.At)
		wantSum(t, fmt.Sprint("BumpAt the middle of ", a), got, ok, a.Size)
		for _, time := range badNumbers() {
			got, ok := impl.BumpAt(a, time)
			wantFailed(t, fmt.Sprint("BumpAt ", a, time), got, ok)
		}
	}
	for _, a := range badAccents() {
		for _, time := range []float32{0, 1, -5} {
			got, ok := impl.BumpAt(a, time)
			wantFailed(t, fmt.Sprint("BumpAt ", a, time), got, ok)
		}
	}
}

func TestPitchAt(t *testing.T) {
	cases := [][4]string{
		{"436461a4,3e44089d,c28f6eab;3f495917,3fc7599f,3eaf2eb4;3fb999cc,c1694796,4012caa4;3da2d9e8,c20903c2,3ed104ad;3dd75828,4201a3e8,40159027", "3fb1f646", "3fbe2ffd", "4307679c"},
		{"438097f6,3f0b8951,c2289fca;3fd25d29,42110a83,3f656e30;40bc79b4,4212c4ce,3f88fcd8;3df1be18,c10cc3e6,4000286e;40259e93,41b92646,3f9de4fb;409b51bc,c21853bf,4005d346;3fed7662,41953528,3ff68e46;4002a469,420fd39f,3fedb347;3f2742b0,c2051478,3faed405", "3fde067b", "40aa376b", "43960da5"},
		{"42b02e34,3f50642e,42820aa9;3effd80f,41a1a013,3ff9ac15;bf3448ad,41e0ef53,3f408bba;40050f11,4204bc22,3fa7754f;40297448,4196db7c,4024dcf9;402d3368,41162e75,3fa52b4d;3f914299,c13dca91,3fc05fc2;bf246d52,414c7450,3fa0f701;402314ce,c1e7c5ec,3f01ca7b", "3d8f66f5", "400f3579", "42d62d32"},
		{"4390b133,3f767995,4164830c;3fbabc30,41c7dc34,3fef49e8;3f57b6ab,41ec6d02,3fd3cfca;3f873613,421bc7eb,3f756822;bf071338,41ba936b,3f69b053;3dc35cf2,c1d7cbe5,4022e340;3fa94815,c1321034,402d62b2;3f1c2c5b,c21d50b5,3ff2d72d;3fd00c30,4025dfb8,3fb57bf9", "3e41ca9b", "3f9b15d5", "4350db3b"},
		{"43270783,3dc9436e,4246f517;3f9e1735,41152415,40104082;407afb51,4209feaf,3f2c00ca;401bfd9e,4203244c,3efffade;3edadd36,41f4bb91,401760b7;40209036,41b7547a,3f84efaf;3f63d01e,c16baabd,4019bbe9;bdbe6a4a,4204dfa1,4029fea8;3e906495,c1f80b85,3fa22e74", "40744504", "40637c33", "43693138"},
		{"4305803e,3f4c9a0d,c26a0316;40d54674,3f667889,40237239;bdf668bd,c1a38971,3f98b468;40b5c26f,c204c7a9,3fecf9e3", "40af563e", "40dee2ab", "4111e940"},
		{"438b4413,3f1a746c,c2647ede;40e87fd9,41aeb98e,3fd9095c;40a5e6b7,c1bb3456,400435bb;41004c0f,c19c2a90,400be461", "4033fd95", "40f4e8dc", "4358c7ab"},
		{"42d184b9,3e1e5b03,c1e2eea5;bed736c9,c1eb6934,40142389;bf5aa755,c212ea2b,3fd55196;3f08dd2e,c1bd6c3b,3fa415f3;4070d947,c21e62f8,40005d72;3ffc6301,c1886c68,3fa45c4d;3f9d2e89,c1321f56,3f5489cd;bf58dd05,c18297c8,403e142f;401be9ca,c1abc1cf,3ef622a3", "4097eee1", "4083cf91", "421586fe"},
		{"430c3ef2,3e1c5d97,c2784575;400e95c9,c1509adc,40384963;404ee3c9,c197498c,4013368f;401a6a26,4200ac7a,3fb6830e;40cb8080,c1ab1b9c,3fda0d89", "40893c9a", "40ae3a36", "42c646c4"},
		{"4369c84f,3f58c3e0,428cabcd;3f8487bd,420aa003,3ff96127;40852175,40734c8b,4037ffb0;40c7f672,c139e1bb,3fc5613c", "40a78b29", "40c74a6d", "42b7e18f"},
		{"42c84cfd,3f53423c,421046b4;bf04edda,42156eaf,4014e49d;3ef07fb0,c1e71dcb,4012e613;40144dc7,c131566e,3fa67a28", "3f566c9a", "3fe6e962", "424a7974"},
		{"433a906f,3d5e7972,c0edc8d4;40906178,410da758,401ec268;3f0b023a,c1d88694,40280187;3fce8110,c0fd11b8,3ecf381b", "402e461e", "409986a8", "43343ede"},
		{"4385657d,3ec9d5d3,4283e814;3ffcae54,42196e5a,4000eb97;3f27de22,c1d66716,40051503;3fbf28e5,c18ee2cf,3f881978;400f6be5,4039b34b,4013bb0b;4069f2a7,41ee156e,3f14380f;400aec44,c1df016f,40281c78;40072d24,c20f4d6b,3fbba30a;3fb9a41c,42136386,3ea2e471", "402c3b6e", "404135fe", "433efd6e"},
		{"42a157b7,3ee92f0c,c20708e8;be65aaab,401de1f2,3f7c69da;40b7acb9,c1b69c30,3f7477f4;bd6e580e,4213fe84,3f8c1c1d;40ea4df7,41e5bfba,3f083978;be6cc966,420b7c74,3fcfb014;40a65177,c0fa9e2a,3f3c7d00;bf53d583,4180bded,3f9f3c8c;40cf2840,42148575,40248be9", "40b44d11", "40ca5478", "4203d070"},
		{"430e7a72,3f5bb48f,c14d7c89;3f2c6619,41fb355f,40357fa2", "3fa83adf", "3f98d95c", "420e881c"},
		{"42f1baf3,3e8fceb5,420df6d3;40b8489c,c213ae35,3fe8d7ae;40de089b,c208df27,3f9394bb;3e7909a1,413f16e6,401b9938;3f1c55dd,c1a25ca5,3fd7a579;40254fcc,41d0c142,3fa6696f;40cf1297,421beb40,4017f8f6;40e06dd8,bfdceb57,3f6f6b19;4070feea,41d6467f,3f160ae9", "40ba7981", "40c3e795", "42e35d14"},
		{"43724921,3f69fd82,c292145c", "4010eea3", "4030c2e8", "42211b54"},
		{"43132fd8,3e4ce22b,4229fada;409ea398,41f0b0d4,402bbacb", "40d5d4bc", "40bfbc7d", "432a97f4"},
		{"42c0629e,3eab5443,c25fb3a1;3f9e3907,c1eec94c,4017f39e;bea1c67a,42088947,3f37fbe4;bc18420c,c19876f0,402e67b9;bd7155a8,418d7101,3e9f97ab", "3ff5f85c", "401ecade", "420fe8e2"},
		{"42de1ab0,3f0188de,c125cc29;bf28b872,be9674dc,3fbdc01d;40a0de6e,41b25798,3fd977fd;3fbe3cde,c19bc4af,40159d53;40ad3f53,c1805ec6,3ed0e36a", "40a29f8d", "4095b233", "4281d3b2"},
		{"438e1439,3ece8694,4290369b;3f96d104,c1d55452,401f2b7c", "400678ab", "40105526", "4351f0c4"},
		{"42712527,3c908f95,c081dd64;beee4814,415becc9,402b3e32;bf74fe77,c1ce5dd5,3eb6cda6", "3fc19f3b", "3fb412af", "4267f66c"},
		{"42b28f2b,3f496ef9,c0dd38f7;4003d62b,41c31a87,3fab5007;405c7b28,c1cab667,3fdf82c3;401e01b6,4182fc7d,4037b5c7;3eaffb9c,42052f71,3ea77deb;4088077c,c1cc4b65,3f0b4f8c;3eaa358e,42042cbf,3f76e361;404527ae,42164ec1,402bbb97;bf004499,c1a473d7,3ea09f8d", "3fd11f10", "405096d1", "42d4c359"},
		// Where parts of a Rise are subnormal, the order of its factors is told by their rounding.
		{"000000b9,3d18d7fc,800000e9", "40352523", "4053abab", "0000004f"},
		{"000000b4,3e4d4e62,00000a8e", "3ffc365b", "4015d706", "00000476"},
		{"00000048,3f39a2b6,000001e2", "404ee040", "4051d98c", "000001dd"},
		{"00000069,3f5a6834,000000fe", "40993d36", "40b6cd17", "00000076"},
	}
	for _, c := range cases {
		got, ok := impl.PitchAt(toldTune(c[0]), toldNumber(c[1]), toldNumber(c[2]))
		wantSum(t, fmt.Sprint("PitchAt ", c[:3]), got, ok, toldNumber(c[3]))
	}
	accent := accentOf(1, 4, 2)
	for _, c := range []struct {
		tune             impl.Tune
		time, long, want float32
	}{
		{tuneOf(100, 0.5, 40), 0, 4, 100}, {tuneOf(100, 0.5, 40), minus0, 4, 100}, {tuneOf(100, 0.5, 40), 1, 4, 87.5}, {tuneOf(100, 0.5, 40), 2, 4, 75}, {tuneOf(100, 0.5, 40), 4, 4, 90}, {tuneOf(100, 0.5, 40), 3.5, 4, 76.25},
		// A quotient of 0.75 does not rise yet, and what is more than 1 stays there.
		{tuneOf(100, 0, 40), 3, 4, 100}, {tuneOf(100, 0.5, 40), 3, 4, 62.5}, {tuneOf(100, 0, -0x1p27), 3, 4, 100}, {tuneOf(100, 0, 0x1p23), oneAbove(3), 4, 102}, {tuneOf(100, 0, 0x1p23), oneBelow(3), 4, 100}, {tuneOf(100, 0, 40), 4, 4, 140}, {tuneOf(100, 0, 40), oneAbove(4), 4, 140}, {tuneOf(100, 0.5, 40), 5, 4, 90}, {tuneOf(100, 0.5, 40), 9, 4, 90}, {tuneOf(100, 0.5, 40), most, 4, 90}, {tuneOf(100, 0.5, 40), most, least, 90}, {tuneOf(100, 0.5, 40), 1, most, 100},
		// A Fall of 0 and of 1.
		{tuneOf(100, 0, 0), 2, 4, 100}, {tuneOf(100, minus0, 0), 2, 4, 100}, {tuneOf(100, 1, 0), 0, 4, 100}, {tuneOf(100, 1, 0), 2, 4, 50}, {tuneOf(100, 1, 0), 4, 4, 0}, {tuneOf(100, 1, 0), 9, 4, 0}, {tuneOf(100, 1, 40), 4, 4, 40}, {tuneOf(100, belowOne, 0), 4, 4, 100 * 0x1p-24},
		// Accents at their own times, also beyond the end.
		{tuneOf(100, 0.5, 40, accent), 2, 4, 77.25}, {tuneOf(100, 0.5, 40, accent), 1, 4, 91.5}, {tuneOf(100, 0.5, 40, accent), 0, 4, 102.25}, {tuneOf(100, 0.5, 40, accentOf(5, 4, 2)), 5, 4, 94}, {tuneOf(100, 0.5, 40, accentOf(5, 4, 2)), 4, 4, 92.25}, {tuneOf(100, 0.5, 40, accentOf(5, 4, 2)), 9, 4, 90},
		{tuneOf(100, 0.5, 40, accent, accent, accentOf(2, -8, 1)), 2, 4, 71.5}, {tuneOf(100, 0, 40, repeat(accent, 8)...), 1, 4, 132}, {tuneOf(100, 0, 40, repeat(accentOf(0, -4, 2), 8)...), 1, 4, 82}, {tuneOf(100, 0, 40, append(repeat(accent, 7), accentOf(0, 1, 9))...), 0, 4, 116.75},
		// Pitches at nothing, a little above it, and below.
		{tuneOf(4, 0, 0, accentOf(1, -4, 2)), 1, 4, 0}, {tuneOf(4, 0, 0, accentOf(1, -oneBelow(4), 2)), 1, 4, 0x1p-22}, {tuneOf(4, 0, 0, accentOf(1, -oneAbove(4), 2)), 1, 4, 0}, {tuneOf(4, 0, 0, accentOf(1, -400, 2)), 1, 4, 0}, {tuneOf(4, 0, 0, accentOf(1, -400, 2)), 3, 4, 4}, {tuneOf(100, 0, -100), 4, 4, 0}, {tuneOf(100, 0, -101), 4, 4, 0}, {tuneOf(100, 0, -99), 4, 4, 1}, {tuneOf(100, 0, -most), 9, 4, 0},
		// What comes below nothing can rise again.
		{tuneOf(4, 0, 0, accentOf(1, -8, 2), accentOf(1, 16, 2)), 1, 4, 12}, {tuneOf(4, 0, 16, accentOf(4, -8, 2)), 4, 4, 12}, {tuneOf(4, 1, 0, accentOf(4, 2, 2)), 4, 4, 2},
		// Limits of Base and Rise.
		{tuneOf(least, 0, 0), 1, 4, least}, {tuneOf(least, 0.5, 0), 4, 4, 0}, {tuneOf(least, 0.25, 0), 4, 4, least}, {tuneOf(least, 1, least), 4, 4, 0}, {tuneOf(least, 0, least), 4, 4, least}, {tuneOf(least, 0, 3*least), 4, 4, 5 * least}, {tuneOf(least, 0, 2*least), 4, 4, least}, {tuneOf(most, 0, 0), 1, 4, most}, {tuneOf(most, 0, -most), 4, 4, 0}, {tuneOf(most, 1, most), 4, 4, most}, {tuneOf(1, 0, most), 4, 4, most}, {tuneOf(1, 0, 1), 3 * least, 4 * least, 1}, {tuneOf(1, 0, 1), 4 * least, 4 * least, 2},
		// Sums that become infinite below nothing, on the way or in the end.
		{tuneOf(1, 0, 0, accentOf(1, -most, 2), accentOf(1, -most, 2)), 1, 4, 0}, {tuneOf(1, 0, 0, accentOf(1, -most, 2), accentOf(1, -most, 2), accentOf(1, most, 2)), 1, 4, 0}, {tuneOf(most, 0, most, accentOf(4, -most, 2), accentOf(4, -most, 2), accentOf(4, -most, 2)), 4, 4, 0}, {tuneOf(most, 0, 0, accentOf(1, -most, 2), accentOf(1, most, 2)), 1, 4, most},
	} {
		got, ok := impl.PitchAt(c.tune, c.time, c.long)
		wantSum(t, fmt.Sprint("PitchAt ", c), got, ok, c.want)
	}
}

func TestPitchAtThatFails(t *testing.T) {
	good := tuneOf(100, 0.5, 40, accentOf(1, 4, 2))
	for _, tune := range badTunes() {
		for _, time := range []float32{0, 2, 9} {
			got, ok := impl.PitchAt(tune, time, 4)
			wantFailed(t, fmt.Sprint("PitchAt ", tune, time), got, ok)
		}
	}
	for _, time := range belowNothing() {
		got, ok := impl.PitchAt(good, time, 4)
		wantFailed(t, fmt.Sprint("PitchAt the time ", time), got, ok)
	}
	for _, long := range notPositive() {
		for _, time := range []float32{0, 2} {
			got, ok := impl.PitchAt(good, time, long)
			wantFailed(t, fmt.Sprint("PitchAt of something that is long ", long), got, ok)
		}
	}
	// Pitches that become infinite, on the way or in the end: what is taken away behind that is too late.
	for _, tune := range []impl.Tune{
		tuneOf(most, 0, most), tuneOf(most, 0, 0, accentOf(4, most, 2)), tuneOf(most, 0, 0, accentOf(4, most, 2), accentOf(4, -most, 2)), tuneOf(most, 0, -most, accentOf(4, most, 2)), tuneOf(1, 0, 0, accentOf(4, most, 2), accentOf(4, most, 2), accentOf(4, -most, 2)),
		tuneOf(most, 0, 0x1p103), tuneOf(1, 0, most, accentOf(4, 0x1p103, 2)),
	} {
		got, ok := impl.PitchAt(tune, 4, 4)
		wantFailed(t, fmt.Sprint("PitchAt ", tune), got, ok)
	}
	got, ok := impl.PitchAt(tuneOf(most, 0, oneBelow(0x1p103)), 4, 4)
	wantSum(t, "PitchAt what is rounded to the greatest number", got, ok, most)
}

func TestPitchesOf(t *testing.T) {
	cases := []struct {
		tune, long string
		count      int64
		want       string
	}{
		{"42d3a344,3c31c54c,c201fd3b;40260bf0,40e5602e,4007b78e;40b89b53,4198c522,3ee00f1f", "40f96def", 6, "42d3a344,42db7e0d,42df5c9e,42d2473e,42c4cd41,429058ca"},
		{"43361d25,3f52a0be,c1ade47d;4041b634,c1488b54,3f0c52c1", "40a2dc09", 10, "43361d25,4325771d,4314d116,43042b10,42e70a10,42b2dd8f,429cc204,427ca2a8,421365f8,4128a53a"},
		{"437662ef,3f70850a,4265325e;4072cb68,c1689a5c,3f670dec", "41067b04", 12, "437662ef,43615796,434c4c3f,433740e6,432099a2,42fd4e3e,42eeacae,42c62708,429c1058,42913ab6,4290d016,42906577"},
		{"4314c45d,3f33cb85,c1e828e6;3fd6e17b,c210c0be,400c8f2b", "40fd1b3b", 12, "430e8340,42e72983,42bce438,42aedf5a,42b9ce36,42c66ead,42b78d90,42a48e5e,42918f2b,425d7773,420d4318,41743ae4"},
		{"42893201,3e857155,428d15d3;3f1e4300,c1a06cc9,3fe631f9;406dae08,41c0b08e,403096c2", "41055e0b", 9, "425403e4,4242458e,4290271d,42a7aef6,42a4ea8e,428adcce,425f0a40,42b0734a,42f285f8"},
	}
	for _, c := range cases {
		got, ok := impl.PitchesOf(toldTune(c.tune), toldNumber(c.long), c.count)
		wantNumbers(t, fmt.Sprint("PitchesOf ", c.tune, " ", c.long, " ", c.count), got, ok, c.want)
	}
	for _, c := range []struct {
		tune  impl.Tune
		long  float32
		count int64
		want  []float32
	}{
		{tuneOf(8, 1, 0), 1, 3, []float32{8, 4, 0}}, {tuneOf(8, 1, 0), 1, 2, []float32{8, 0}}, {tuneOf(100, 0.5, 40), 4, 5, []float32{100, 87.5, 75, 62.5, 90}}, {tuneOf(100, 0.5, 40), 8, 9, []float32{100, 93.75, 87.5, 81.25, 75, 68.75, 62.5, 76.25, 90}},
		{tuneOf(100, 0.5, 40, accentOf(1, 4, 2)), 4, 5, []float32{102.25, 91.5, 77.25, 62.5, 90}}, {tuneOf(4, 0, 0, accentOf(2, -8, 1)), 4, 5, []float32{4, 4, 0, 4, 4}}, {tuneOf(8, 1, 0), least, 3, []float32{8, 8, 8}}, {tuneOf(8, 1, 0), 2 * least, 3, []float32{8, 4, 0}},
		{tuneOf(8, 1, 0), most, 3, []float32{8, 4, 0}}, {tuneOf(8, 1, 0), most, 2, []float32{8, 0}},
	} {
		got, ok := impl.PitchesOf(c.tune, c.long, c.count)
		wantNumbers(t, fmt.Sprint("PitchesOf ", c), got, ok, bitsText(c.want))
	}
	for _, count := range []int64{2, 3, 17, 33, 63, 64} {
		tune, long := tuneOf(300, 0.75, -30, accentOf(1, 40, 0.5), accentOf(2.5, -20, 1)), float32(3.3)
		want := []float32{}
		for k := range count {
			pitch, ok := impl.PitchAt(tune, float32(k)*(long/float32(count-1)), long)
			if !ok {
				t.Fatalf("PitchAt %v %d failed", tune, k)
			}
			want = append(want, pitch)
		}
		got, ok := impl.PitchesOf(tune, long, count)
		wantNumbers(t, fmt.Sprint("PitchesOf ", count), got, ok, bitsText(want))
	}
}

func TestPitchesOfThatFail(t *testing.T) {
	good := tuneOf(100, 0.5, 40, accentOf(1, 4, 2))
	for _, count := range badCounts(2, 64) {
		got, ok := impl.PitchesOf(good, 4, count)
		wantNoList(t, fmt.Sprint("PitchesOf ", count), got, ok)
	}
	for _, tune := range badTunes() {
		got, ok := impl.PitchesOf(tune, 4, 3)
		wantNoList(t, fmt.Sprint("PitchesOf ", tune), got, ok)
	}
	for _, long := range notPositive() {
		for _, count := range []int64{2, 64} {
			got, ok := impl.PitchesOf(good, long, count)
			wantNoList(t, fmt.Sprint("PitchesOf of something that is long ", long), got, ok)
		}
	}
	// Only one of the pitches is infinite.
	for _, accent := range []impl.Accent{accentOf(0, most, 0.5), accentOf(1, most, 0.5), accentOf(2, most, 0.5), accentOf(4, most, 0.5)} {
		got, ok := impl.PitchesOf(tuneOf(most, 0, 0, accent), 4, 5)
		wantNoList(t, fmt.Sprint("PitchesOf with ", accent), got, ok)
	}
	got, ok := impl.PitchesOf(tuneOf(most, 0, 0, accentOf(1.5, most, 0.25)), 4, 5)
	wantNumbers(t, "PitchesOf beside an infinite one", got, ok, bitsText(repeat(most, 5)))
}

// The last time of some counts is rounded beyond the greatest number, while that of others is not.
func TestPitchesOfTheLongest(t *testing.T) {
	failed := []int64{}
	for count := int64(2); count <= 64; count++ {
		got, ok := impl.PitchesOf(tuneOf(100, 0, 0), most, count)
		if !ok {
			wantNoList(t, fmt.Sprint("PitchesOf the longest ", count), got, ok)
			failed = append(failed, count)
			continue
		}
		wantNumbers(t, fmt.Sprint("PitchesOf the longest ", count), got, ok, bitsText(repeat(float32(100), int(count))))
	}
	if want := []int64{26, 32, 50, 51, 63}; !slices.Equal(failed, want) {
		t.Errorf("PitchesOf the longest failed with the counts %v, want %v", failed, want)
	}
}
