package tests

import (
	"fmt"
	"math"
	"slices"
	"testing"

	"loop.example/g01279/impl"
)

func TestValidFrame(t *testing.T) {
	for _, f := range goodMoments() {
		wantBool(t, fmt.Sprint("ValidFrame ", f), impl.ValidFrame(f), true)
	}
	for _, f := range badMoments() {
		wantBool(t, fmt.Sprint("ValidFrame ", f), impl.ValidFrame(f), false)
	}
}

func TestSameFrame(t *testing.T) {
	odd := []impl.Frame{momentOf(nan, inf, minus0), momentOf(-1, 2, nan, nan, 0, -inf)}
	for _, f := range slices.Concat(goodMoments(), badMoments(), odd) {
		wantBool(t, fmt.Sprint("SameFrame of the same ", f), impl.SameFrame(f, toldMoment(momentText(f))), true)
		others := []impl.Frame{momentOf(f.Pitch, f.Voice, f.Noise, append(slices.Clone(f.Areas), 1)...)}
		if len(f.Areas) > 0 {
			others = append(others, momentOf(f.Pitch, f.Voice, f.Noise, f.Areas[1:]...))
		}
		for _, areas := range changedNumbers(f.Areas) {
			others = append(others, momentOf(f.Pitch, f.Voice, f.Noise, areas...))
		}
		for _, n := range changedNumbers([]float32{f.Pitch, f.Voice, f.Noise}) {
			others = append(others, momentOf(n[0], n[1], n[2], f.Areas...))
		}
		for _, other := range others {
			wantBool(t, fmt.Sprint("SameFrame ", f, other), impl.SameFrame(f, other), false)
			wantBool(t, fmt.Sprint("SameFrame ", other, f), impl.SameFrame(other, f), false)
		}
	}
	for _, bits := range otherNN {
		x := math.Float32frombits(bits)
		wantBool(t, "SameFrame of not-a-numbers", impl.SameFrame(momentOf(x, x, x, 1, x), momentOf(nan, nan, nan, 1, nan)), true)
	}
	wantBool(t, "SameFrame of nil and no areas", impl.SameFrame(impl.Frame{}, momentOf(0, 0, 0, []float32{}...)), true)
}

func TestFrameOf(t *testing.T) {
	s := targetOf("a", []float32{1, 3, 2}, 7, 5, 0.5, 0.25)
	for _, pitch := range []float32{0, minus0, least, 100, most} {
		got, ok := impl.FrameOf(s, pitch)
		wantMoment(t, fmt.Sprint("FrameOf with the pitch ", pitch), got, ok, momentText(momentOf(pitch, 0.5, 0.25, 1, 3, 2)))
	}
	for _, pitch := range belowNothing() {
		got, ok := impl.FrameOf(s, pitch)
		wantNoMoment(t, fmt.Sprint("FrameOf with the pitch ", pitch), got, ok)
	}
	for _, s := range goodTargets() {
		got, ok := impl.FrameOf(s, 3)
		wantMoment(t, fmt.Sprint("FrameOf ", s), got, ok, momentText(momentOf(3, s.Voice, s.Noise, s.Areas...)))
	}
	for _, s := range badTargets() {
		got, ok := impl.FrameOf(s, 100)
		wantNoMoment(t, fmt.Sprint("FrameOf ", s), got, ok)
	}
}

func TestMixFrames(t *testing.T) {
	cases := [][4]string{
		{"3f0829c6;4361afb0,3eba7f05,3ebb6f86", "3fd041cd;437d86f9,3ee09140,3de3955b", "3f3910d5", "3fa96a90;4375d018,3ed604b2,3e3a222a"},
		{"3fc4e80f;43c6f4ff,3f2ee7a2,3e2f0274", "3fce647d;43b132d8,3e4e8e54,3e826e35", "3ed95b1b", "3fc8eefc;43bdb856,3ef526b7,3e53749c"},
		{"3f9999f2,3fe617fc;436df83f,3efd05de,3e4be9ea", "3f82bb05,3f674b64;433c5ce4,3f5e16c9,3f1a3b42", "3f384208", "3f8923d2,3f93b852;434a43ca,3f434ddb,3efa9758"},
		{"3f09729a;432de2ac,3f0efc7c,3f692dab", "3f6b6f45;43c0cdeb,3db72634,3f5679aa", "3f0a06e4", "3f3e4771;43900518,3e9c78f1,3f5f1822"},
		{"3f64db7a;438e2174,3ec9f32d,3ec6fc59", "3ff7f68c;42dc5012,3f36982e,3e171f53", "3eb5d2a1", "3fa1d989;435e6ec8,3f01f5bb,3e9b27a6"},
		{"3f4596f3,3f1c3d11,3fc24a9f;43c75082,3f241329,3f6c3c57", "3f699920,3ff7ecc0,3f33cfb8;4341af10,3e96a134,3f2a4d56", "3f58d7f9", "3f64172a,3fddf3ca,3f53be74;436107f8,3eb1c83d,3f34630e"},
		{"3f54997f;42f15082,3f75c4eb,3f760639", "3f16e920;432d64d6,3d8bb6ae,3f3db5da", "3f1283f3", "3f314b1d;4316d6fc,3ee6356c,3f55cb5c"},
		{"3f13601e,3fde1ceb;4335a9ad,3ed22fc8,3eecb021", "3fcbc4a1,3f5e7b7b;43b67931,3e067578,3f011a59", "3f2e4604", "3fa23d9e,3f92a2e8;4399379c,3e61bc41,3efb561e"},
	}
	for _, c := range cases {
		got, ok := impl.MixFrames(toldMoment(c[0]), toldMoment(c[1]), toldNumber(c[2]))
		wantMoment(t, fmt.Sprint("MixFrames ", c[0], " ", c[1], " ", c[2]), got, ok, c[3])
	}
	a, b := momentOf(100, 1, 0, 1, 3, 8), momentOf(200, 0, 0.5, 3, 1, 8)
	for _, c := range []struct {
		share float32
		want  impl.Frame
	}{
		{0, a}, {minus0, a}, {1, b}, {0.5, momentOf(150, 0.5, 0.25, 2, 2, 8)}, {0.25, momentOf(125, 0.75, 0.125, 1.5, 2.5, 8)}, {0.75, momentOf(175, 0.25, 0.375, 2.5, 1.5, 8)},
	} {
		got, ok := impl.MixFrames(a, b, c.share)
		wantMoment(t, fmt.Sprint("MixFrames with the share ", c.share), got, ok, momentText(c.want))
	}
	// A zero has the sign of the sum that it is.
	for _, c := range [][4]float32{
		{0, 0, 0, 0}, {0, 0, minus0, 0}, {0, minus0, 0, 0}, {0, minus0, minus0, 0}, {minus0, 0, 0, 0}, {minus0, 0, minus0, minus0}, {minus0, minus0, 0, 0}, {minus0, minus0, minus0, minus0},
		{minus0, minus0, 1, 0}, {0, minus0, 1, 0}, {1, 0, 1, 0}, {1, minus0, 1, 0},
	} {
		got, ok := impl.MixFrames(momentOf(c[0], c[0], c[0], 1), momentOf(c[1], c[1], c[1], 1), c[2])
		wantMoment(t, fmt.Sprint("MixFrames of zeros ", c), got, ok, momentText(momentOf(c[3], c[3], c[3], 1)))
	}
	for _, f := range goodMoments() {
		got, ok := impl.MixFrames(f, f, 0.5)
		want := momentOf(f.Pitch+0, f.Voice+0, f.Noise+0, f.Areas...)
		wantMoment(t, fmt.Sprint("MixFrames with itself ", f), got, ok, momentText(want))
	}
}

func TestMixFramesThatFail(t *testing.T) {
	good := momentOf(100, 0.5, 0.5, 1, 3)
	for _, f := range badMoments() {
		like := momentOf(100, 0.5, 0.5, repeat(float32(1), max(1, len(f.Areas)))...)
		for _, share := range []float32{0, 0.5, 1} {
			got, ok := impl.MixFrames(f, like, share)
			wantNoMoment(t, fmt.Sprint("MixFrames of ", f), got, ok)
			got, ok = impl.MixFrames(like, f, share)
			wantNoMoment(t, fmt.Sprint("MixFrames with ", f), got, ok)
		}
	}
	for _, areas := range [][]float32{{1}, {1, 2, 3}, repeat(float32(1), 16)} {
		got, ok := impl.MixFrames(good, momentOf(100, 0.5, 0.5, areas...), 0.5)
		wantNoMoment(t, fmt.Sprint("MixFrames with the areas ", areas), got, ok)
		got, ok = impl.MixFrames(momentOf(100, 0.5, 0.5, areas...), good, 0.5)
		wantNoMoment(t, fmt.Sprint("MixFrames of the areas ", areas), got, ok)
	}
	for _, share := range badShares() {
		got, ok := impl.MixFrames(good, good, share)
		wantNoMoment(t, fmt.Sprint("MixFrames with the share ", share), got, ok)
	}
	// An area that is rounded to nothing, and numbers that are rounded beyond the greatest one, although they lie between finite ones.
	tiny, odd := momentOf(0, 0, 0, 0x1p-30), momentOf(0, 0, 0, 0x3p103)
	got, ok := impl.MixFrames(momentOf(0, 0, 0, 1), tiny, 1)
	wantNoMoment(t, "MixFrames to an area that is rounded to 0", got, ok)
	got, ok = impl.MixFrames(momentOf(0, 0, 0, 1), tiny, belowOne)
	wantMoment(t, "MixFrames to an area that is nearly 0", got, ok, momentText(momentOf(0, 0, 0, 0x1p-24)))
	got, ok = impl.MixFrames(odd, momentOf(0, 0, 0, most), 1)
	wantNoMoment(t, "MixFrames to an area that is rounded to infinity", got, ok)
	got, ok = impl.MixFrames(momentOf(0, 0, 0, 1, 0x3p103, 1), momentOf(0, 0, 0, 1, most, 1), 1)
	wantNoMoment(t, "MixFrames to areas of which one is rounded to infinity", got, ok)
	got, ok = impl.MixFrames(momentOf(0x3p103, 0, 0, 1), momentOf(most, 0, 0, 1), 1)
	wantNoMoment(t, "MixFrames to a pitch that is rounded to infinity", got, ok)
	got, ok = impl.MixFrames(momentOf(1, 0, 0, 1), momentOf(0x1p-30, 0, 0, 1), 1)
	wantMoment(t, "MixFrames to a pitch that is rounded to 0", got, ok, momentText(momentOf(0, 0, 0, 1)))
}

func TestTubeOfFrame(t *testing.T) {
	for _, f := range goodMoments() {
		got, ok := impl.TubeOfFrame(f)
		wantTube(t, fmt.Sprint("TubeOfFrame ", f), got, ok, tubeOf(1, 0.75, -0.875, f.Areas...))
	}
	for _, f := range badMoments() {
		got, ok := impl.TubeOfFrame(f)
		wantNoTube(t, fmt.Sprint("TubeOfFrame ", f), got, ok)
	}
}

func TestFrameAt(t *testing.T) {
	cases := [][5]string{
		{"a:40979409,403a350f:3fef0553,3f9fe4b7,3f5df9b9,3f08a8e7/ab:408c6012,3fedaa49:405b69fc,40077988,3de253b6,3f275431/b:3fe17f66,40533d05:403ec896,3f84279a,3f29d699,3de6f33d", "b-ab-b-b-a-ab", "3fb2706e,4036e126,403f32c3,3fd81fd7,3f1a57fd,3ea04203", "40220e84", "404e37d1,401fd3de;00000000,3eb62ca0,3ed3cdf2"},
		{"a:3fbf830e:40383bf4,4085f850,3f7264d2,3ebf13b7/ab:3ece2221:401ec67d,409753dc,3dbfbca5,3ecee0e2", "ab-a", "3fbcbc11,3f954b9f", "402269bb", "3f141037;00000000,3e6c4bf6,3ecc56b7"},
		{"a:3ee6fa96,400a4a12:3f83a798,406a9f73,3db5913c,3e9fffea/ab:3f02c38e,402aa3e6:4039cfeb,4099cb9f,3f1d939d,3f437219/b:40221414,3f98ad94:3fc1641d,3f125998,3e620fde,3e029e6b", "a-b-ab-ab-a-ab", "3f1137c6,3fc31675,403b474b,40357d3f,3fb565d8,3ebe75ba", "406603ed", "40040b77,3fc474ee;00000000,3e9ff2ae,3e8ce252"},
		{"a:3feffc92:405cf624,3f2b7b9e,3f220f7e,3e9c53fb/ab:40343434:4070459c,400e04c8,3e5b2eb4,3f7e4924/b:403a5463:3fe2b910,3fd20fdf,3f6aec6e,3f1fc8d9", "a-b-a-b", "402b43e6,3f064e46,400286ba,400645bd", "40d0c96e", "40324ae6;00000000,3f621883,3f15e54e"},
		{"a:403d9243:40226fc7,3fec51eb,3f38c570,3f2d0b1d/ab:3e6380f3:406d3e09,407ee020,3eaf9180,3f2b247f", "ab-a-a-ab-a", "3f2954f9,3fe06aba,3fa98978,3f9c3340,3f891e28", "400a1af4", "402d126f;00000000,3f2fa53f,3f2cdd54"},
		{"a:3f9daa57:405be803,3fd89fc8,3f1aac36,3ebdfaa5/ab:40109768:404de1f1,40882d1d,3cda0e6b,3e8f677f", "ab-ab-a-ab", "3f17e5f0,3fcad2ad,402836d4,401da25a", "410432fb", "400a80c4;00000000,3da40860,3e93b76e"},
		{"a:3f27f663,403c9232:4078118d,408ce597,3f41847d,3dd0e176/ab:4051093d,3f4c5486:4004ade0,3f1ef8d1,3ecccbac,3f43bff4/b:4081e101,4024a88e:407019b8,406ef1bd,3f54b7f5,3f640f9a", "a-ab-a-ab-b-ab", "3ee01098,3f1f93ac,3eb70f64,4038dd97,4029d3fc,3fefe316", "40a68f99", "40586d6f,3f87443e;00000000,3eecf2ca,3f487555"},
		{"a:4006fc15,409dd767:3f0836f4,3f537355,3dea0797,3db0ac83/ab:4066a190,403072b4:3f10756d,407ebd6c,3f6942dc,3f249eee", "ab-ab-a", "3ff2447e,3f63aaff,3f63f2c2", "404300d4", "404f6e42,405238b0;00000000,3f37c6b8,3f020bea"},
		{"a:3feca884,3fe5e2c9:3fe17bb9,409e4fde,3f63c790,3e0e38c9/ab:3ecc230a,3f9e15b9:3f256608,403ec695,3e8a75ea,3f27f8d3", "a-ab-a-a", "401bcc18,3fed571f,3f6049d3,3fe4746b", "409cd69a", "3eeb79c6,3fa11d8a;00000000,3e97d831,3f22620d"},
		{"a:401693c0,409dfaf6:4035a686,405a9844,3d6e0171,3e92bcf1/ab:40698f42,4080dfbb:405b672e,401ea679,3f523b2a,3f667a21", "ab-ab-a", "3f829590,3fd79321,403ae503", "40a88284", "40238bb2,40996e7b;00000000,3e359f58,3ec3d808"},
		{"a:3f774cb5,3ffc3e10:402714dd,3f872aca,3eaa9c7b,3f271ea4/ab:3fe8b0ea,3fc0b8c0:403eb571,40223faf,3ee4ab46,3d84df36/b:405265d8,405322a9:40374b76,3ff5eb6a,3f747328,3f5fbb61", "b-b-ab", "4027ba62,3ffea0e3,402f41f6", "410733bb", "3fe8b0ea,3fc0b8c0;00000000,3ee4ab46,3d84df36"},
		{"a:3f3827ae,4082eff9:3f659319,4086190e,3f366176,3df62bcd/ab:408a16bc,401946b0:3f1001b7,4071819f,3efb66fb,3f163c88", "ab-ab-ab-a-ab", "40395cd4,40129bf9,3fd58331,400e5160,3fbbe6cc", "41003fd2", "406901d4,402da5c5;00000000,3f085556,3effa740"},
		{"a:40444dec,40274b08:4050b028,3f6f5eeb,3f7056fd,3d315706/ab:4085beec,40128785:3f50c96c,3ed55526,3f067943,3f66dec2/b:3f4664e9,3ff58cce:40095235,40985e6c,3f2e8a35,3f1288aa", "b-ab-b-ab-b-a", "4010064e,3ffe783b,4002f890,3f5cc2eb,3ea2080d,3eb5f6bc", "40fcb4df", "3fe5e064,400e9a39;00000000,3f4bd885,3eac6a16"},
		{"a:3f9e537d:402288e2,3fe22a09,3d65ee43,3f2f8d83/ab:3ed644d6:403239c1,40822e3c,3ee6704c,3f1672bc/b:409061b9:40044d19,407a026c,3dcd39e4,3ea37ef8", "b-ab-ab-b-a", "3f857067,3f1c50b4,4013b107,3f6bf384,401b8820", "40ce3187", "3fae10f2;00000000,3d6cb57b,3f2c07d6"},
		{"a:4010fc53:403fd061,400388dc,3f1959d6,3f23d044/ab:3fe099e3:3fea5c8f,3fbe5b7b,3e9f95d0,3f194219/b:40428a3c:3fef83bc,3fd1adf0,3f2c1079,3f6eeedf", "a-ab", "3f93f62f,3ffb5413", "40057e12", "3ff542b3;00000000,3ece1460,3f1c9816"},
		{"a:3fc3198c:405d42f9,4019593c,3f1faf66,3f6347d5/ab:3f685a58:3f63d179,4033fb62,3c98750a,3f183380/b:40980f91:403d25f7,3f4561c7,3f68be44,3e21a979", "b-a-a-a-b-ab", "4013abdb,3eeee1bc,3ff736ff,40224a37,3ff61449,3fe9d1f0", "41392ba9", "3f8f8c2a;00000000,3d8b9078,3f11fbae"},
		{"a:403b2d67,3fa1302a:402b2873,3fbf4d0f,3f7d0387,3f69bf4c/ab:3fefab54,408dc996:402feb91,408357d0,3f68d093,3f3734bd/b:401f2e33,409bd805:4045d13e,408c5b25,3df834f3,3f2da9d7", "ab-b", "4036e01d,3ec4f90b", "405e9087", "3ff3f193,408e8d0c;00000000,3f5dda9a,3f36b00b"},
		{"a:3eef4adc:3f88d099,40222892,3f62efdc,3ecfecab/ab:3fe9b3ce:4058496d,3f252bb3,3f28b89a,3f07272d/b:3f752705:406c88f4,400cdaa6,3ece1fc8,3e22a6aa", "ab-a-b-ab", "3f4d5232,4006352c,3fa2b6e0,401a8b20", "403989b8", "3eef4adc;00000000,3f62efdc,3ecfecab"},
		{"a:408499a4:3f11a3a5,403cce3c,3f7e786a,3f568da0/ab:4071ca32:3f9e9d04,3fd1dfc5,3f130582,3eeef722/b:407c8f27:3fed76f8,3f0142f6,3f002a0f,3f7ed1ec", "b-a-a", "3ec4a175,3fcc8a9a,4027da5c", "3ffdb2f7", "408499a4;00000000,3f7e786a,3f568da0"},
		{"a:409904c2:402658c3,4077cd19,3f668b8e,3f2c55f4/ab:40999aa7:4047e049,3fca9f28,3f575c79,3e91d327/b:3ed46ffe:404cfe60,3fa1b7cb,3f17204d,3d3941c3", "ab-ab-a-a-b", "3fac15a1,3f848c1a,3fb023fa,40297dbc,3f821ba2", "407062db", "409904c2;00000000,3f668b8e,3f2c55f4"},
		{"a:3fe035c0,3fc42395:3fd38eb6,4014e4b9,3f46c3fd,3f4c1007/ab:408a5810,404015da:40224ae0,40113c46,3f4744bc,3e1541e7/b:3fc0a820,401a2ae6:3fc61a43,4075bfbe,3f50bf6c,3eaf2b65", "b-ab-ab-b-b-b", "3ff085e2,3f3db63c,3f900bb3,402d8a39,40371f0d,3ffa4e4d", "4027b080", "408a5810,404015da;00000000,3f4744bc,3e1541e7"},
		{"a:3fc9c127:40276184,408f205d,3eb671ff,3f0d0d34/ab:3f09f215:3f9b49dc,402bce9c,3f1b4196,3f1ee069", "ab-a-ab-a-a-a", "3fc6ef51,3fcd1309,3f9b403c,3fa9951b,3f792904,4022f272", "404a012d", "3fc9c127;00000000,3eb671ff,3f0d0d34"},
	}
	for _, c := range cases {
		got, ok := impl.FrameAt(toldTargets(c[0]), toldNames(c[1]), told(c[2]), toldNumber(c[3]))
		wantMoment(t, fmt.Sprint("FrameAt ", c[:4]), got, ok, c[4])
	}
}

// rampTargets returns two sounds with these ramps, whose areas, Voice and Noise tell how much of a ramp is done.
func rampTargets(first, second float32) []impl.Sound {
	return []impl.Sound{targetOf("a", []float32{1, 5}, 2, first, 1, 0), targetOf("b", []float32{5, 1}, 4, second, 0, 1)}
}

// rampMoment returns the frame where so much of a ramp from a to b is done.
func rampMoment(done float32) impl.Frame {
	return momentOf(0, 1-done, done, 1+4*done, 5-4*done)
}

func TestFrameAtRamps(t *testing.T) {
	for _, c := range []struct {
		ramp    float32
		names   string
		lengths []float32
		time    float32
		done    float32
	}{
		// The first sound has no ramp, however long its Ramp is.
		{2, "a-b", []float32{2, 4}, 0, 0}, {2, "a-b", []float32{2, 4}, minus0, 0}, {2, "a-b", []float32{2, 4}, 1, 0}, {2, "a-b", []float32{2, 4}, oneBelow(2), 0}, {2, "b", []float32{4}, 0, 1}, {2, "b", []float32{4}, 1, 1}, {2, "b-a", []float32{4, 2}, 1, 1},
		// The end of a length belongs to the next sound, where its ramp begins.
		{2, "a-b", []float32{2, 4}, 2, 0}, {2, "a-b", []float32{2, 4}, 2.5, 0.15625}, {2, "a-b", []float32{2, 4}, 3, 0.5}, {2, "a-b", []float32{2, 4}, 3.5, 0.84375}, {2, "a-b", []float32{2, 4}, 4, 1}, {2, "a-b", []float32{2, 4}, 5, 1},
		// Exactly all of the ramp is left, or there is none.
		{1, "a-b", []float32{2, 4}, 3, 1}, {0, "a-b", []float32{2, 4}, 2, 1}, {minus0, "a-b", []float32{2, 4}, 2, 1}, {0, "a-b", []float32{2, 4}, 3, 1}, {0, "a-b", []float32{2, 4}, oneBelow(2), 0}, {least, "a-b", []float32{2, 4}, 2, 0}, {least, "a-b", []float32{2, 4}, oneAbove(2), 1},
		// The last sound goes on for ever, and so does its ramp if it is longer than its sound.
		{2, "a-b", []float32{2, 4}, 6, 1}, {2, "a-b", []float32{2, 4}, 7, 1}, {2, "a-b", []float32{2, 4}, 8, 1}, {2, "a-b", []float32{2, 4}, most, 1}, {2, "a", []float32{2}, 2, 0}, {2, "a", []float32{2}, 3, 0}, {2, "a", []float32{2}, most, 0},
		{8, "a-b", []float32{2, 1}, 2, 0}, {8, "a-b", []float32{2, 1}, 3, 0.04296875}, {8, "a-b", []float32{2, 1}, 4, 0.15625}, {8, "a-b", []float32{2, 1}, 6, 0.5}, {8, "a-b", []float32{2, 1}, 8, 0.84375}, {8, "a-b", []float32{2, 1}, 10, 1}, {8, "a-b", []float32{2, 1}, 11, 1},
		{8, "a-b", []float32{2, 4}, 6, 0.5}, {8, "a-b", []float32{2, 4}, 8, 0.84375}, {most, "a-b", []float32{2, 4}, 4, 0}, {most, "a-b", []float32{2, 4}, most / 2, 0.5}, {most, "a-b", []float32{2, 4}, most, 1},
		// A ramp that is longer than its sound is cut off where another one follows.
		{8, "a-b-b", []float32{2, 4, 1}, 4, 0.15625}, {8, "a-b-b", []float32{2, 4, 1}, 5.5, 0.40673828125}, {8, "a-b-b", []float32{2, 4, 1}, 6, 1}, {8, "a-b-b", []float32{2, 4, 1}, 7, 1},
		// Lengths are those that are given, not those of the sounds.
		{2, "a-b", []float32{16, 1}, 15, 0}, {2, "a-b", []float32{16, 1}, 17, 0.5}, {2, "a-b", []float32{0.5, 1}, 1.5, 0.5}, {2, "a-b", []float32{least, least}, 1, 0.5},
		{2, "a-a-a-b", []float32{1, 2, 3, 4}, 7, 0.5}, {2, "a-a-a-b", []float32{1, 2, 3, 4}, 6, 0}, {2, "a-a-a-b", []float32{1, 2, 3, 4}, 5.5, 0}, {2, "b-b-b-b", []float32{1, 2, 3, 4}, 5.5, 1},
	} {
		// A ramp of the sound a has no effect: it is the first one, or there is another a before.
		for _, first := range []float32{0, 1, c.ramp, 8} {
			got, ok := impl.FrameAt(rampTargets(first, c.ramp), toldNames(c.names), c.lengths, c.time)
			wantMoment(t, fmt.Sprint("FrameAt where a has the ramp ", first, ": ", c), got, ok, momentText(rampMoment(c.done)))
		}
	}
}

// A ramp goes from the sound before, which is the nearest one, and not from where its own ramp was left.
func TestFrameAtBehindOtherRamps(t *testing.T) {
	list := []impl.Sound{targetOf("a", []float32{1}, 9, 4, 0, 0), targetOf("b", []float32{5}, 9, 8, 1, 0), targetOf("c", []float32{9}, 9, 2, 0, 1)}
	names, lengths := []string{"a", "b", "c", "a"}, []float32{2, 4, 1, 3}
	for _, c := range []struct{ time, area, voice, noise float32 }{
		{0, 1, 0, 0}, {2, 1, 0, 0}, {4, 1.625, 0.15625, 0}, {5.5, 2.626953125, 0.40673828125, 0}, {6, 5, 1, 0}, {6.5, 5.625, 0.84375, 0.15625}, {7, 9, 0, 1}, {8, 7.75, 0, 0.84375}, {9, 5, 0, 0.5}, {10, 2.25, 0, 0.15625}, {10.5, 1.34375, 0, 0.04296875}, {11, 1, 0, 0}, {20, 1, 0, 0},
	} {
		got, ok := impl.FrameAt(list, names, lengths, c.time)
		wantMoment(t, fmt.Sprint("FrameAt ", c.time), got, ok, momentText(momentOf(0, c.voice, c.noise, c.area)))
	}
}

func TestFrameAtItsLimits(t *testing.T) {
	list := rampTargets(0, 0)
	for _, count := range []int{1, 2, 23, 24} {
		names := append(repeat("a", count-1), "b")
		for k := range count {
			got, ok := impl.FrameAt(list, names, repeat(float32(1), count), float32(k)+0.5)
			done := float32(0)
			if k == count-1 {
				done = 1
			}
			wantMoment(t, fmt.Sprint("FrameAt ", k, " of ", count), got, ok, momentText(rampMoment(done)))
		}
	}
	many := plainTargets(someNames(16)...)
	for k := range many {
		many[k].Areas = []float32{float32(k + 1)}
	}
	for k, name := range someNames(16) {
		got, ok := impl.FrameAt(many, []string{name}, []float32{1}, 0)
		wantMoment(t, "FrameAt "+name, got, ok, momentText(momentOf(0, 0.5, 0.25, float32(k+1))))
	}
	// Zeros with signs are those of the sound, but not behind a ramp.
	list = []impl.Sound{targetOf("a", []float32{1}, 1, 1, minus0, 0), targetOf("b", []float32{1}, 1, 1, minus0, minus0)}
	got, ok := impl.FrameAt(list, []string{"a", "b"}, []float32{1, 1}, 0)
	wantMoment(t, "FrameAt a minus zero", got, ok, momentText(momentOf(0, minus0, 0, 1)))
	got, ok = impl.FrameAt(list, []string{"a", "b"}, []float32{1, 1}, 2)
	wantMoment(t, "FrameAt two minus zeros", got, ok, momentText(momentOf(0, minus0, minus0, 1)))
	got, ok = impl.FrameAt(list, []string{"a", "b"}, []float32{1, 1}, 1.5)
	wantMoment(t, "FrameAt minus zeros on a ramp", got, ok, momentText(momentOf(0, 0, 0, 1)))
}

func TestFrameAtThatFails(t *testing.T) {
	list := plainTargets("a", "ab", "b")
	for _, names := range badNameLists() {
		got, ok := impl.FrameAt(list, names, repeat(float32(1), len(names)), 0)
		wantNoMoment(t, fmt.Sprintf("FrameAt %q", names), got, ok)
	}
	for _, counts := range [][2]int{{1, 0}, {1, 2}, {2, 1}, {2, 3}, {24, 23}, {24, 25}, {0, 1}, {25, 24}} {
		got, ok := impl.FrameAt(list, repeat("a", counts[0]), repeat(float32(1), counts[1]), 0)
		wantNoMoment(t, fmt.Sprint("FrameAt with as many names and lengths ", counts), got, ok)
	}
	for _, long := range notPositive() {
		for _, lengths := range [][]float32{{long, 1, 1}, {1, long, 1}, {1, 1, long}} {
			for _, time := range []float32{0, 0.5, 1, 2, 5} {
				got, ok := impl.FrameAt(list, []string{"a", "ab", "b"}, lengths, time)
				wantNoMoment(t, fmt.Sprint("FrameAt with the lengths ", lengths), got, ok)
			}
		}
	}
	for _, time := range belowNothing() {
		for _, names := range [][]string{{"a"}, {"a", "b"}} {
			got, ok := impl.FrameAt(list, names, repeat(float32(1), len(names)), time)
			wantNoMoment(t, fmt.Sprint("FrameAt the time ", time), got, ok)
		}
	}
	got, ok := impl.FrameAt(nil, []string{"a"}, []float32{1}, 0)
	wantNoMoment(t, "FrameAt of no sounds", got, ok)
	for _, list := range badTargetLists() {
		for _, s := range list {
			got, ok := impl.FrameAt(list, []string{s.Name}, []float32{1}, 0)
			wantNoMoment(t, fmt.Sprint("FrameAt ", s.Name, " in ", list), got, ok)
		}
	}
	// Only where the ramp is nearly done, its area is rounded to nothing.
	list = []impl.Sound{targetOf("a", []float32{1, 1}, 1, 0, 0, 0), targetOf("b", []float32{1, 0x1p-30}, 1, 1, 0, 0)}
	for _, c := range []struct {
		time float32
		area float32
	}{{0.5, 1}, {1, 1}, {1.5, 0.5}, {1.75, 0.15625}, {2 - 0x1p-23, 0}, {2, 0x1p-30}, {3, 0x1p-30}} {
		got, ok := impl.FrameAt(list, []string{"a", "b"}, []float32{1, 2}, c.time)
		if c.area == 0 {
			wantNoMoment(t, fmt.Sprint("FrameAt the time ", c.time), got, ok)
		} else {
			wantMoment(t, fmt.Sprint("FrameAt the time ", c.time), got, ok, momentText(momentOf(0, 0, 0, 1, c.area)))
		}
	}
}

func TestSwaysOf(t *testing.T) {
	cases := [][2]string{
		{"4435e32e;4367c68d,3f107cbe,3f2b0e3e/3db5b572;43a4e324,3ee47efa,3e9d4b84", "4435dd80"},
		{"43d87295,41fd67dd;429e4271,3f5d0a9a,3f0da6cc/41a1544a,3c91d61d;42c487f2,3efe6fbf,3f3f758e/415d10d1,3f16fbc2;42f37e25,3f4f1c23,3eb6c528", "43ce5d50,40cb2f86"},
		{"3b937dcf,3b87c9a4,3e9fd25d;4388c0af,3e3dc373,3f6d361c/411df2a1,44378c59,3c84bd53;42a7ad4e,3f1ffc8e,3f19b56a/3b146348,40345b24,3e7f6d70;43660356,3f7c64d1,3f243b3f/3fe0bdb5,3e9931c3,3d7b4815;4360bc68,3f5b99b0,3e214d41", "44378c15,4436d7fe,402134ec"},
		{"3be4c331,3cfe1fee,3ce33524,3f57c59e,3c6eb167,4244f6ca,43d57b1e,4239e1e9,3b739a9f,42d6f1e3,3b9250b2,3b7ee3c0,3da2f01e,43db0ece,3e9abe13,42aff401;42d8ebc8,3e9df3f2,3f2e0a04/439c417b,3bb9f26c,3c648039,415c5ebf,3bd296e5,3d3a939b,406c60c8,3f3d581b,3b841403,4120d306,4292201a,4262cbdf,442b7fc7,3e428e78,3ba036f4,409436ce;438527bb,3ef1bad9,3e8a5de8", "442b7aaf"},
	}
	for _, c := range cases {
		got, ok := impl.SwaysOf(toldMoments(c[0]))
		wantNumbers(t, "SwaysOf "+c[0], got, ok, c[1])
	}
	for _, c := range []struct {
		areas [][]float32
		want  []float32
	}{
		{[][]float32{{1}, {1}}, []float32{0}}, {[][]float32{{1}, {3}}, []float32{2}}, {[][]float32{{3}, {1}}, []float32{2}}, {[][]float32{{1, 2}, {2, 5}}, []float32{3}}, {[][]float32{{2, 2}, {5, 1}}, []float32{3}}, {[][]float32{{5, 2}, {2, 1}}, []float32{3}},
		{[][]float32{{1, 1, 1}, {1.5, 4, 1}, {1, 1, 9}, {1, 1, 9}}, []float32{3, 8, 0}}, {[][]float32{{least}, {most}, {least}}, []float32{most, most}}, {[][]float32{{least}, {2 * least}}, []float32{least}}, {[][]float32{{1}, {1}, {3}, {4}}, []float32{0, 2, 1}},
	} {
		frames := []impl.Frame{}
		for k, areas := range c.areas {
			// Nothing but the areas sways.
			frames = append(frames, momentOf(float32(100*k), float32(k)/8, float32(k)/4, areas...))
		}
		got, ok := impl.SwaysOf(frames)
		wantNumbers(t, fmt.Sprint("SwaysOf ", c.areas), got, ok, bitsText(c.want))
	}
	for _, count := range []int{2, 3, 63, 64} {
		frames, want := []impl.Frame{}, []float32{}
		for k := range count {
			frames = append(frames, momentOf(1, 0, 0, float32(1+k*k)))
			if k > 0 {
				want = append(want, float32(2*k-1))
			}
		}
		got, ok := impl.SwaysOf(frames)
		wantNumbers(t, fmt.Sprint("SwaysOf ", count), got, ok, bitsText(want))
	}
}

func TestSwaysOfThatFail(t *testing.T) {
	good := momentOf(1, 0, 0, 1, 3)
	for _, count := range []int{0, 1, 65, 66, 300} {
		got, ok := impl.SwaysOf(repeat(good, count))
		wantNoList(t, fmt.Sprint("SwaysOf ", count), got, ok)
	}
	for _, f := range append(badMoments(), momentOf(1, 0, 0, 1), momentOf(1, 0, 0, 1, 2, 3), momentOf(1, 0, 0, repeat(float32(1), 16)...)) {
		for _, frames := range [][]impl.Frame{{f, good}, {good, f}, {good, f, good}, {good, good, f}, append(repeat(good, 63), f)} {
			got, ok := impl.SwaysOf(frames)
			wantNoList(t, fmt.Sprint("SwaysOf with ", f), got, ok)
		}
	}
	for _, f := range badMoments() {
		got, ok := impl.SwaysOf([]impl.Frame{f, f})
		wantNoList(t, fmt.Sprint("SwaysOf two of ", f), got, ok)
	}
}
