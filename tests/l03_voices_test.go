package tests

import (
	"fmt"
	"math"
	"testing"

	"loop.example/g01279/impl"
)

func TestNewVoice(t *testing.T) {
	for _, throat := range goodThroats() {
		for _, seed := range []int64{0, 1, 12345, mostSeed} {
			got, ok := impl.NewVoice(throat, seed)
			wantVoice(t, fmt.Sprint("NewVoice ", throat, seed), got, ok, voiceText(impl.Voice{Phase: 0, Now: throat.Period, Seed: seed}))
		}
	}
	for _, seed := range badSeeds() {
		got, ok := impl.NewVoice(quietThroat(4, 0.5, 0.5), seed)
		wantNoVoice(t, fmt.Sprint("NewVoice ", seed), got, ok)
	}
	for _, bad := range badThroats() {
		got, ok := impl.NewVoice(bad, 1)
		wantNoVoice(t, fmt.Sprint("NewVoice ", bad), got, ok)
	}
}

func TestValidVoice(t *testing.T) {
	for _, v := range goodVoices() {
		wantBool(t, fmt.Sprint("ValidVoice ", v), impl.ValidVoice(v), true)
	}
	for _, v := range badVoices() {
		wantBool(t, fmt.Sprint("ValidVoice ", v), impl.ValidVoice(v), false)
	}
}

func TestSameVoice(t *testing.T) {
	list := []impl.Voice{{}, {Phase: 1, Now: 2}, {Phase: 2, Now: 1}, {Seed: 1}, {Seed: -1}, {Seed: math.MinInt64}, {Seed: math.MaxInt64}, {Seed: 1 << 32}, {Phase: 1, Seed: 1}}
	for _, x := range []float32{minus0, 1, nan, inf, -inf, least} {
		list = append(list, impl.Voice{Phase: x}, impl.Voice{Now: x})
	}
	for i, a := range list {
		for j, b := range list {
			wantBool(t, fmt.Sprint("SameVoice ", a, b), impl.SameVoice(a, b), i == j)
		}
	}
	for _, bits := range otherNN {
		x := math.Float32frombits(bits)
		wantBool(t, "SameVoice of not-a-numbers", impl.SameVoice(impl.Voice{Phase: x, Now: x, Seed: 3}, impl.Voice{Phase: nan, Now: nan, Seed: 3}), true)
	}
}

// ticksOfVoices have a throat, a voice, the voice behind a tick, and what comes out.
func ticksOfVoices() [][4]string {
	return [][4]string{
		// A number is drawn for the breath also if there is none, and one for the shake only if the phase begins again.
		{"40800000,3f000000,3f000000,00000000,00000000", "00000000,40800000;0", "3e800000,40800000;12345", "00000000"},
		{"40800000,3f000000,3f000000,00000000,00000000", "80000000,40800000;0", "3e800000,40800000;12345", "00000000"},
		{"40800000,3f000000,3f000000,3f800000,3f000000", "3f400000,40800000;0", "00000000,4093dc00;1406932606", "00000000"},
		{"40800000,3f000000,3f000000,3f800000,3f000000", "3f000000,40800000;2147483647", "3f400000,40800000;1043980748", "3f78e400"},
		// Just below 1, and with the least Now, the sum is rounded to 2; -1 and nearly 1 are drawn for the shake of 0.5.
		{"40000000,3f000000,3f000000,3f800000,3f000000", "3f7fffff,3f800000;1490725751", "00000000,3f800000;77", "3469b15a"},
		{"40000000,3f000000,3f000000,3f800000,3f000000", "3f7fffff,3f800000;1124182903", "00000000,403fff00;2147418189", "349536a0"},
		{"40000000,3f000000,3f000000,3f800000,00000000", "3f000000,40000000;1490725751", "00000000,40000000;77", "3f94c600"},
		{"40000000,3f000000,3f000000,00000000,3e800000", "3f000000,3f800000;5", "3f000000,3fe10900;554244747", "3f800000"},
		{"447a0000,3e800000,3e800000,3f800000,3f000000", "3f7fffff,447a0000;1124182903", "3a831000,44bb7f06;2147418189", "00000000"},
		{"447a0000,3e800000,3e800000,3f000000,3f000000", "3e800000,7f7fc99e;7", "3e800000,7f7fc99e;1282168116", "3f8c6c00"},
		// Breaths that are great, for which -1, nearly 1 and +0 are drawn.
		{"40800000,3f000000,3f000000,7149f2ca,00000000", "3f000000,40800000;0", "3f400000,40800000;12345", "f149f2ca"},
		{"40800000,3f000000,3f000000,7f7fffff,00000000", "3f000000,40800000;0", "3f400000,40800000;12345", "ff7fffff"},
		{"40800000,3f000000,3f000000,7f7fffff,00000000", "3f000000,40800000;230538014", "3f400000,40800000;2147483647", "7f7ffbff"},
		{"40800000,3f000000,3f000000,3f800000,3f000000", "3e99999a,40800000;1712930684", "3f0ccccd,40800000;1073741829", "3f278ddf"},
		{"40800000,3f000000,3f000000,80000000,80000000", "3f4ccccd,40400000;9", "3e088888,40800000;731087919", "3f167918"},
		// The flow is -0.
		{"40800000,3bb1c8f9,3f485b2e,3f800000,00000000", "3f49bebf,40800000;0", "3d1bec00,40800000;1406932606", "00000000"},
		{"40800000,3bb1c8f9,3f485b2e,3f800000,00000000", "3f49bebf,40800000;230538014", "3d1bec00,40800000;1043980748", "80000000"},
		// Here a last bit differs if an operation is not rounded on its own, or products are made in another order.
		{"411d8e76,3e3a25b4,3e9eaa4a,3fb87b28,3e571dbe", "3ced0bd3,40b6c436;1430838381", "3e50eb71,40b6c436;746406050", "3d0c9757"},
		{"4071af00,3f167b61,3e2c18ab,3f943f1b,3e812166", "3ed9c24c,41111bfe;1854477747", "3f091b42,41111bfe;275576688", "3dea4840"},
		{"405686da,3ee1b23d,3dad8dfa,3dc93f7c,3e0a60b0", "3e67064a,40e1e4e9;1540804342", "3ebc0ab4,40e1e4e9;365511415", "3ef84871"},
		{"40f12b06,3eda1737,3f0137ea,3d943625,3ea039df", "3e99234d,402888ba;1401226561", "3f2dc8a0,402888ba;679688934", "3f46869a"},
		{"409b718f,3f19b218,3e882567,3fb82faa,3ece9a49", "3f23281f,411b2d23;358789839", "3f3d8d71,411b2d23;144401500", "be7565a0"},
		{"410c3562,3ef8c5ef,3ee4c900,3f8d40a1,3e56e283", "3eb6e75e,3faa9dc1;193221050", "3ddc11c0,41147b58;1375698888", "3efbda3d"},
		{"41032cab,3e10ace2,3e8566c2,3f344ecc,3e15c332", "3e9c5e6e,40bffa5b;1337150202", "3ef1b646,40bffa5b;126568619", "3e54f0be"},
		{"40c726f1,3e9bff8d,3e4df8a5,3f769672,3ebf4576", "3e3bb48c,411a77b7;527918445", "3e92e2eb,411a77b7;1712035234", "3f843bce"},
		{"41147707,3edb2f4c,3ed44109,3b5bd9cb,3ef7c768", "3f3260c0,3f959f42;835932807", "3f0d620c,41444cb9;1788618205", "3f065263"},
		{"40c567bc,3e8ea3ad,3eabdd51,3f8f816b,3ed83af9", "3f7bb2d5,410d5c26;547264927", "3dc564d0,40dcc579;1374731957", "00000000"},
		{"4119f154,3e701ea4,3da5691e,3eeb8ba3,3ee7499b", "3f713d20,40e8385b;1021117199", "3da42000,40c2887a;198663589", "00000000"},
	}
}

func TestStepVoice(t *testing.T) {
	for _, c := range ticksOfVoices() {
		got, out, ok := impl.StepVoice(toldThroat(c[0]), toldVoice(c[1]))
		wantVoice(t, fmt.Sprint("StepVoice ", c[:2]), got, ok, c[2])
		wantNumber(t, fmt.Sprint("StepVoice ", c[:2]), out, toldNumber(c[3]))
	}
	for _, bad := range badThroats() {
		got, out, ok := impl.StepVoice(bad, impl.Voice{Phase: 0.25, Now: 4, Seed: 1})
		wantNoVoice(t, fmt.Sprint("StepVoice ", bad), got, ok)
		wantNumber(t, fmt.Sprint("StepVoice ", bad), out, 0)
	}
	for _, bad := range badVoices() {
		got, out, ok := impl.StepVoice(quietThroat(4, 0.5, 0.5), bad)
		wantNoVoice(t, fmt.Sprint("StepVoice ", bad), got, ok)
		wantNumber(t, fmt.Sprint("StepVoice ", bad), out, 0)
	}
}

func TestVoicesStayValid(t *testing.T) {
	for _, throat := range goodThroats() {
		for _, v := range goodVoices() {
			next, out, ok := impl.StepVoice(throat, v)
			if !ok || !impl.ValidVoice(next) || !impl.IsFinite(out) {
				t.Errorf("StepVoice %v %v: got %v %v %v", throat, v, next, out, ok)
			}
			last, all, ok := impl.RunVoice(throat, v, 256)
			if !ok || !impl.ValidVoice(last) || !impl.IsSound(all) || len(all) != 256 {
				t.Errorf("RunVoice %v %v: got %v %v %v", throat, v, last, all, ok)
			}
		}
	}
}

func TestRunVoice(t *testing.T) {
	for _, c := range []struct {
		throat, voice string
		count         int64
		last, want    string
	}{
		{"40800000,3f000000,3f000000,00000000,00000000", "00000000,40800000;0", 4, "00000000,40800000;229283573", "00000000,3f000000,3f800000,3f3504f3"},
		{"40800000,3f000000,3f000000,00000000,00000000", "80000000,7f7fffff;2147483647", 0, "80000000,7f7fffff;2147483647", ""},
		{"40533333,3ecccccd,3e99999a,3e800000,3e000000", "00000000,40533333;42", 12, "3f1ec32d,40567893;1974836613", "00000000,3f5ed2ab,3eedb05b,00000000,3ed6ed1a,3f45b607,00000000,3e98feca,3f53f4cb,00000000,3bf02e49,3f8cb037"},
		{"40000000,3f000000,3f000000,3f800000,3f000000", "00000000,40000000;2147483647", 10, "3eb61458,3fcdba00;652027854", "00000000,3e89c800,00000000,3efbccfa,3e8c888e,3fea1b80,3cd5e46a,3f872d35,3e1095c4,3ee7a3fc"},
		{"40b66666,3e9eb852,3ee147ae,3f19999a,3f000000", "00000000,40b66666;123456789", 14, "3e962494,40b86bac;436938117", "00000000,3f1ee817,3faf0e8c,3f208ec3,3e667ec4,00000000,3d8b33cb,3f8b44f9,3f909691,3f687baa,3eaf0ec2,00000000,00000000,3e566be4"},
		{"447a0000,3a83126f,3b03126f,3dcccccd,3dcccccd", "00000000,447a0000;1", 4, "3b83126f,447a0000;1147902781", "00000000,3f6f659a,3f2e173e,00000000"},
	} {
		got, all, ok := impl.RunVoice(toldThroat(c.throat), toldVoice(c.voice), c.count)
		wantVoice(t, fmt.Sprint("RunVoice ", c), got, ok, c.last)
		wantNumbers(t, fmt.Sprint("RunVoice ", c), all, ok, c.want)
	}
	got, all, ok := impl.RunVoice(toldThroat("40533333,3ecccccd,3e99999a,3e800000,3e000000"), toldVoice("00000000,40533333;42"), 256)
	wantVoice(t, "RunVoice with 256 ticks", got, ok, "3e933e48,4052fed0;1065454255")
	if len(all) != 256 {
		t.Fatalf("RunVoice with 256 ticks: got %d numbers", len(all))
	}
	wantNumbers(t, "RunVoice with 256 ticks", all[250:], ok, "3f78ab38,00000000,3d2c92ee,3f81fd8d,3e088af4,00000000")
}

func TestRunVoiceFails(t *testing.T) {
	throat, good := quietThroat(4, 0.5, 0.5), impl.Voice{Phase: 0.25, Now: 4, Seed: 1}
	for _, count := range badCounts(0, 256) {
		got, all, ok := impl.RunVoice(throat, good, count)
		wantNoVoice(t, fmt.Sprint("RunVoice ", count), got, ok)
		wantNoList(t, fmt.Sprint("RunVoice ", count), all, ok)
	}
	for _, count := range []int64{0, 1, 3} {
		for _, bad := range badThroats() {
			got, all, ok := impl.RunVoice(bad, good, count)
			wantNoVoice(t, fmt.Sprint("RunVoice ", bad, count), got, ok)
			wantNoList(t, fmt.Sprint("RunVoice ", bad, count), all, ok)
		}
		for _, bad := range badVoices() {
			got, all, ok := impl.RunVoice(throat, bad, count)
			wantNoVoice(t, fmt.Sprint("RunVoice ", bad, count), got, ok)
			wantNoList(t, fmt.Sprint("RunVoice ", bad, count), all, ok)
		}
	}
}
