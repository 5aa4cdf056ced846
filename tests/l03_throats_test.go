package tests

import (
	"fmt"
	"math"
	"testing"

	"loop.example/g01279/impl"
)

func TestValidThroat(t *testing.T) {
	for _, throat := range goodThroats() {
		wantBool(t, fmt.Sprint("ValidThroat ", throat), impl.ValidThroat(throat), true)
	}
	for _, throat := range badThroats() {
		wantBool(t, fmt.Sprint("ValidThroat ", throat), impl.ValidThroat(throat), false)
	}
}

func TestSameThroat(t *testing.T) {
	// Throats that differ in one number, some of them only by the sign of a zero, and most of which are not valid.
	list := []impl.Throat{throatOf(1, 2, 3, 4, 5), throatOf(2, 1, 3, 4, 5), throatOf(1, 2, 3, 5, 4), {}}
	for _, x := range []float32{minus0, 1, nan, inf, -inf, least} {
		list = append(list, throatOf(x, 0, 0, 0, 0), throatOf(0, x, 0, 0, 0), throatOf(0, 0, x, 0, 0), throatOf(0, 0, 0, x, 0), throatOf(0, 0, 0, 0, x))
	}
	for i, a := range list {
		for j, b := range list {
			wantBool(t, fmt.Sprint("SameThroat ", a, b), impl.SameThroat(a, b), i == j)
		}
	}
	for _, bits := range otherNN {
		x := math.Float32frombits(bits)
		wantBool(t, "SameThroat of not-a-numbers", impl.SameThroat(throatOf(x, x, x, x, x), throatOf(nan, nan, nan, nan, nan)), true)
	}
}

func TestPulseAt(t *testing.T) {
	for _, c := range [][3]string{
		// Phases of zeros, around Open, around Open plus Close, and just below 1.
		{"40800000,3f000000,3f000000,00000000,00000000", "00000000", "00000000"}, {"40800000,3f000000,3f000000,00000000,00000000", "80000000", "00000000"},
		{"40800000,3f000000,3f000000,00000000,00000000", "00000001", "00000000"}, {"40800000,3f000000,3f000000,00000000,00000000", "3f000000", "3f800000"},
		{"40800000,3f000000,3f000000,00000000,00000000", "3f7fffff", "34490fdb"}, {"40800000,3e800000,3e800000,00000000,00000000", "3e7fffff", "3f800000"},
		{"40800000,3e800000,3e800000,00000000,00000000", "3e800000", "3f800000"}, {"40800000,3e800000,3e800000,00000000,00000000", "3e800001", "3f800000"},
		{"40800000,3e800000,3e800000,00000000,00000000", "3effffff", "34490fdb"}, {"40800000,3e800000,3e800000,00000000,00000000", "3f000000", "00000000"},
		{"40800000,3e800000,3e800000,00000000,00000000", "3f000001", "00000000"}, {"40800000,3e800000,3e800000,00000000,00000000", "3f7fffff", "00000000"},
		{"41000000,3e99999a,3f19999a,3f000000,3dcccccd", "3f666666", "34490fdb"}, {"41000000,3e99999a,3f19999a,3f000000,3dcccccd", "3f666667", "00000000"},
		{"42c80000,3f19999a,3ecccccd,00000000,00000000", "3f7fffff", "34c90fdb"},
		// Half a turn has the sine -0.
		{"40800000,3bb1c8f9,3f485b2e,00000000,00000000", "3f49bebf", "80000000"}, {"40800000,3bb1c8f9,3f485b2e,00000000,00000000", "3f49bec0", "00000000"},
		{"40800000,3bb1c8f9,3f485b2e,00000000,00000000", "3f49bebe", "34c90fdb"},
		// Open plus Close is rounded to Open, so that there is no phase at which the throat closes.
		{"40800000,3f000000,30800000,00000000,00000000", "3f000000", "00000000"}, {"40800000,3f000000,30800000,00000000,00000000", "3effffff", "3f800000"},
		// A throat that opens all the time, and one that closes all the time.
		{"40400000,3f800000,00000001,00000000,00000000", "3f000000", "3f000000"}, {"40400000,00000001,3f800000,00000000,00000000", "00000000", "00000000"},
		{"40400000,00000001,3f800000,00000000,00000000", "00000001", "3f800000"}, {"40400000,00000001,3f800000,00000000,00000000", "3f000000", "3f3504f3"},
		// Here a last bit differs if the sine, a quotient or the result is not rounded on its own.
		{"40b574b6,3e943e0e,3e843745,3cbe8e51,3e8c3f84", "3dd163b6", "3e8e0512"}, {"40c6e3fa,3ea9b3dc,3da3af02,3d875422,3ede2738", "3ecb9ad7", "3e88478f"},
		{"4124ed03,3e96b2f8,3eea303f,3eef2f36,3e36722d", "3e0a875c", "3edf9c9e"}, {"40404029,3d9853c4,3f06d7ea,3dc05eed,3e4a3030", "3d49477b", "3f3de776"},
		{"40160846,3e29cb48,3e630cd1,3f56708a,3ea15f0a", "3d26d2aa", "3e110524"}, {"40dcad91,3e838479,3eec0c46,3eda0c1f,3e985fa5", "3c0152a5", "3b189180"},
		{"40dd335a,3eec34f2,3e6eaa66,3fad97fe,3c3aaf84", "3f198ab7", "3f186fc8"}, {"4120a842,3f295c76,3d9e7a79,3f7ebd9a,3ddb7b17", "3e7c777d", "3e9c4ee4"},
		// These phases are Open plus Close, rounded to what is less.
		{"409fb298,3ef45a3a,3e5b8861,3e328115,3e311df8", "3f310f35", "00000000"}, {"4104001c,3e826731,3eb72fac,3f82084c,3e566018", "3f1ccb6e", "00000000"},
		{"40e1b5ad,3f27d30d,3e0f93ad,3f5f034d,3efcb6d0", "3f4bb7f8", "00000000"},
	} {
		got, ok := impl.PulseAt(toldThroat(c[0]), toldNumber(c[1]))
		wantSum(t, fmt.Sprint("PulseAt ", c), got, ok, toldNumber(c[2]))
	}
}

func TestPulseAtFails(t *testing.T) {
	for _, phase := range append(badNumbers(), 1, aboveOne, 2, most, -least, -0.5, -1, -most) {
		got, ok := impl.PulseAt(quietThroat(4, 0.5, 0.5), phase)
		wantFailed(t, fmt.Sprint("PulseAt ", phase), got, ok)
	}
	for _, bad := range badThroats() {
		for _, phase := range []float32{0, 0.125, 0.5} {
			got, ok := impl.PulseAt(bad, phase)
			wantFailed(t, fmt.Sprint("PulseAt ", bad, phase), got, ok)
		}
	}
	for _, good := range goodThroats() {
		for _, phase := range []float32{0, minus0, least, 0.25, 0.5, belowOne} {
			got, ok := impl.PulseAt(good, phase)
			if !ok || !(got >= 0 && got <= 1) {
				t.Errorf("PulseAt %v %v: got %v %v", good, phase, got, ok)
			}
		}
	}
}

func TestFlowOfThroat(t *testing.T) {
	for _, c := range []struct {
		throat string
		count  int64
		want   string
	}{
		{"40800000,3f000000,3f000000,00000000,00000000", 0, ""}, {"40800000,3f000000,3f000000,00000000,00000000", 1, "00000000"},
		{"40800000,3f000000,3f000000,00000000,00000000", 9, "00000000,3f000000,3f800000,3f3504f3,00000000,3f000000,3f800000,3f3504f3,00000000"},
		// The least and the greatest period, with a breath and a shake that do not matter.
		{"40000000,3f000000,3e800000,3f800000,3f000000", 5, "00000000,3f800000,00000000,3f800000,00000000"},
		{"447a0000,3b03126f,3b449ba6,00000000,00000000", 7, "00000000,3f000000,3f800000,3f5db3d8,3efffffc,00000000,00000000"},
		{"40400000,3ecccccd,3e4ccccd,00000000,00000000", 8, "00000000,3f6ed9ec,00000000,00000000,3f6ed9ee,00000000,00000000,3f6ed9e9"},
		{"402ccccd,3eb33333,3ee66666,3e99999a,3e4ccccd", 12, "00000000,3f7f5a65,3e524fa1,3e6a374e,3f658204,00000000,3f34a505,3f29919e,00000000,3f7e9201,3ea8e13b,3dda1fdc"},
		{"40c9999a,3f19999a,3ecccccd,00000000,00000000", 14, "00000000,3e26e200,3f0baf89,3f66086e,3f7d98c0,3f3979df,3e3e5fb8,3da875d4,3ed7be16,3f4fce82,3f7fb798,3f570bf5,3ebb0e08,3ce04400"},
		{"4107245b,3e435bdc,3e70daee,3fb0629d,3e76864d", 12, "00000000,3f2f5606,3f7402d3,3ee930a9,00000000,00000000,00000000,00000000,00000000,3e87315e,3f7f3056,3f3c2f64"},
		{"4082f077,3e89c0a9,3db8c16f,3fb65d32,3e800ff2", 12, "00000000,3f7abae8,00000000,00000000,00000000,3f6d1e67,00000000,00000000,00000000,3f580da4,00000000,00000000"},
		{"40cde14d,3f25eae8,3eb39670,3fb2514b,3ea7b5cd", 12, "00000000,3e0a918c,3eefa27a,3f516bf2,3f7ef42d,3f566f1c,3e95c679,3d378fb8,3e9e7d97,3f2d687c,3f72fe04,3f7650b6"},
	} {
		got, ok := impl.FlowOfThroat(toldThroat(c.throat), c.count)
		wantNumbers(t, fmt.Sprint("FlowOfThroat ", c.throat, c.count), got, ok, c.want)
	}
	got, ok := impl.FlowOfThroat(toldThroat("40e33333,3ee66666,3eb33333,00000000,00000000"), 256)
	if !ok || len(got) != 256 {
		t.Fatalf("FlowOfThroat with 256 numbers: got %v %v", got, ok)
	}
	wantNumbers(t, "FlowOfThroat with 256 numbers", got[254:], ok, "3de88773,00000000")
	for _, count := range badCounts(0, 256) {
		got, ok := impl.FlowOfThroat(quietThroat(4, 0.5, 0.5), count)
		wantNoList(t, fmt.Sprint("FlowOfThroat ", count), got, ok)
	}
	for _, bad := range badThroats() {
		for _, count := range []int64{0, 3} {
			got, ok := impl.FlowOfThroat(bad, count)
			wantNoList(t, fmt.Sprint("FlowOfThroat ", bad, count), got, ok)
		}
	}
}

func TestMeanFlow(t *testing.T) {
	for _, c := range []struct {
		throat string
		parts  int64
		want   string
	}{
		{"40800000,3f000000,3f000000,00000000,00000000", 1, "00000000"}, {"40800000,3f000000,3f000000,00000000,00000000", 2, "3f000000"},
		{"40800000,3f000000,3f000000,00000000,00000000", 256, "3f117c80"}, {"40800000,3e99999a,3e99999a,00000000,00000000", 255, "3eae94d4"},
		{"40800000,3e99999a,3e99999a,00000000,00000000", 256, "3eae9619"}, {"41100000,3eaaaaab,3e800000,00000000,00000000", 3, "3eaaaaab"},
		// Here a last bit differs if the sum goes in another order, is not rounded, or is divided otherwise.
		{"40df5d45,3e010988,3e781571,3dc5a322,3ec6d771", 7, "3e5c0a38"}, {"400eae94,3ed33354,3ee1494d,3e100efc,3e2c1276", 37, "3ef913e4"},
		{"401c5225,3e5f267d,3ebd5a83,3f979f0a,3e902b32", 56, "3eb04e25"}, {"41244bf4,3f0373f0,3e84d03d,3ef8b873,3e92a755", 23, "3ed807df"},
		{"40d07a4b,3ef257fa,3ec241b0,3fbd0608,3ee7c9dd", 3, "3eff4121"}, {"40d92002,3e206a32,3e6ecc6a,3de71181,3ee8bcc9", 24, "3e6883b9"},
	} {
		got, ok := impl.MeanFlow(toldThroat(c.throat), c.parts)
		wantSum(t, fmt.Sprint("MeanFlow ", c), got, ok, toldNumber(c.want))
	}
	for _, parts := range badCounts(1, 256) {
		got, ok := impl.MeanFlow(quietThroat(4, 0.5, 0.5), parts)
		wantFailed(t, fmt.Sprint("MeanFlow ", parts), got, ok)
	}
	for _, bad := range badThroats() {
		for _, parts := range []int64{1, 4} {
			got, ok := impl.MeanFlow(bad, parts)
			wantFailed(t, fmt.Sprint("MeanFlow ", bad, parts), got, ok)
		}
	}
}
