package tests

import (
	"fmt"
	"math"
	"testing"

	"loop.example/g01279/impl"
)

func TestResponseOf(t *testing.T) {
	for _, c := range []struct {
		tube string
		turn float32
		want string
	}{
		// A section without ends answers with what is a tick behind.
		{"3f800000;3f800000;00000000;00000000", 0, "3f800000,00000000"}, {"3f800000;3f800000;00000000;00000000", minus0, "3f800000,00000000"},
		{"40a00000;3f800000;00000000;00000000", 0.25, "00000000,bf800000"}, {"3f800000;3f800000;00000000;00000000", 0.5, "bf800000,80000000"},
		{"3f800000;3f800000;00000000;00000000", -0.25, "00000000,3f800000"}, {"3f800000;3f800000;00000000;00000000", 1, "3f800000,00000000"},
		{"3f800000;3f800000;00000000;00000000", 0.1, "3f4f1bbd,bf167918"}, {"3f800000;3f800000;00000000;00000000", 0x1p52, "3f800000,00000000"},
		{"3f800000;3f800000;00000000;00000000", most, "3f800000,00000000"}, {"3f800000;3f800000;00000000;00000000", -most, "3f800000,00000000"},
		// Of the areas 1 and 2, 2/3 comes out, nearly.
		{"3f800000,40000000;3f800000;00000000;00000000", 0, "3f2aaaaa,00000000"}, {"3f800000,40000000;3f800000;00000000;00000000", 0.25, "bf2aaaaa,80000000"},
		{"3f800000,40000000;3f800000;00000000;00000000", -0.25, "bf2aaaaa,00000000"}, {"3f800000,40000000;3f800000;00000000;00000000", 0.1, "3e52f4a2,bf225049"},
		{"3f800000,40000000;3f800000;00000000;00000000", 1e10, "3f2aaaaa,00000000"},
		// The phasor of the opposite is not just the conjugate.
		{"40000000;3f800000;3f000000;be800000", 1e-17, "3f2aaaab,a42bb5c8"}, {"40000000;3f800000;3f000000;be800000", 0.5, "bf2aaaab,80000000"},
		// Ends of -1, 0 and 1, at 1/8 of a turn, with the Loss 1/2.
		{"40000000,3f800000;3f000000;bf800000;bf800000", 0.125, "00000000,80000000"}, {"40000000,3f800000;3f000000;bf800000;00000000", 0.125, "3ce1fc7a,bea97d5b"},
		{"40000000,3f800000;3f000000;bf800000;3f800000", 0.125, "3dfaf9c4,bf30779b"}, {"40000000,3f800000;3f000000;00000000;bf800000", 0.125, "00000000,80000000"},
		{"40000000,3f800000;3f000000;00000000;00000000", 0.125, "00000000,beaaaaac"}, {"40000000,3f800000;3f000000;00000000;3f800000", 0.125, "3d61fc7d,bf297d5a"},
		{"40000000,3f800000;3f000000;3f800000;bf800000", 0.125, "00000000,80000000"}, {"40000000,3f800000;3f000000;3f800000;00000000", 0.125, "bce1fc7a,bea97d5b"},
		{"40000000,3f800000;3f000000;3f800000;3f800000", 0.125, "32972dc4,bf20a0a1"},
		// Here a last bit differs if one of the steps is made otherwise.
		{"4005c7bb;3f7fc0bf;3f481ba9;3f56d1be", -0.33, "be12f158,3fa01688"}, {"404adb8d,3f83816f;3f7773a3;bf0f8ed6;bf640c23", 1.579, "3c817c4b,be01296c"},
		{"3f88a274,3fe05127,40e43843;3f56f0bc;3e6bf758;bf3f7027", -0.162, "bd512515,3cbe98dc"}, {"40efca65,3ee42c5b,408e4700,40aed1d5;3f585288;be854648;3cc9e288", -1.614, "be0e5f71,bb036310"},
		{"4002a73a,3fed1116,40fcf9cd,4024978f,3f927546,3ed36877,40f68db6,4045083c;3f514072;3d832aa6;3f51f4fb", -1.095, "3cc7ca8e,bd13637b"},
		{
			"40e84b5a,40477058,40c63edf,40d24780,40a1804e,4096b24c,40dbe9d2,40f00170,4047d28c,3ff851d1,40c479f1,3fa3c5dc,3fd95c8c,4092dff8,40b56a0a,40777adb;3f6a57d1;bf079da9;bf0b4329",
			-1.915, "bdcf7ad5,bc341413",
		},
		{"40e140a1;3f789ac2;3f44b976;bf46b02f", -1.257, "bd9c3954,3ef882c0"},
	} {
		got, ok := impl.ResponseOf(toldTube(c.tube), c.turn)
		want := told(c.want)
		wantComplexSum(t, fmt.Sprint("ResponseOf ", c), got, ok, complex(want[0], want[1]))
	}
}

func TestResponseOfFails(t *testing.T) {
	for _, bad := range badTubes() {
		got, ok := impl.ResponseOf(bad, 0.1)
		wantFailed(t, fmt.Sprint("ResponseOf ", bad), got, ok)
	}
	for _, turn := range badNumbers() {
		got, ok := impl.ResponseOf(quietTube(1, 2), turn)
		wantFailed(t, fmt.Sprint("ResponseOf at ", turn), got, ok)
	}
	for _, c := range []struct {
		tube impl.Tube
		turn float32
	}{
		// Nothing comes in, though 2 or 0 comes out.
		{tubeOf(1, 1, 1, 3), 0}, {tubeOf(1, -1, -1, 3), 0}, {tubeOf(1, 1, -1, 3), 0.25},
		// The reflection is -1, and what is told by it is infinite; and so is 1 divided by Loss.
		{quietTube(1, 0x1p30), 0.1}, {quietTube(2, 1, 0x1p30, 2), 0.3}, {tubeOf(least, 0, 0, 1, 2), 0.1}, {tubeOf(least, 0, 0, 1), 0},
	} {
		got, ok := impl.ResponseOf(c.tube, c.turn)
		wantFailed(t, fmt.Sprint("ResponseOf ", c), got, ok)
	}
	// A reflection of 1 does no harm.
	got, ok := impl.ResponseOf(quietTube(0x1p30, 1), 0)
	wantComplexSum(t, "ResponseOf the areas 2 to the power of 30 and 1", got, ok, 2)
}

func TestResponsesOf(t *testing.T) {
	even, _ := impl.EvenTube(1, 1)
	horn, _ := impl.HornTube(5, 1, 8)
	for _, c := range []struct {
		tube  impl.Tube
		count int64
		want  string
	}{
		{quietTube(1), 1, "3f800000"}, {even, 4, "3d9a90e8,3dd6073b,3eba2e8c,3dd6073b"},
		{horn, 8, "3c1bda40,3d3504cc,3ce012ec,3d437f01,3de3b3e3,3d437f01,3ce012ec,3d3504cc"},
	} {
		got, ok := impl.ResponsesOf(c.tube, c.count)
		wantNumbers(t, fmt.Sprint("ResponsesOf ", c), got, ok, c.want)
	}
	for _, count := range []int64{1, 2, 3, 7, 100, 255, 256} {
		got, ok := impl.ResponsesOf(horn, count)
		want := []float32{}
		for k := range count {
			answer, _ := impl.ResponseOf(horn, float32(k)/(2*float32(count)))
			want = append(want, impl.LongOf(answer))
		}
		wantNumbers(t, fmt.Sprint("ResponsesOf ", count), got, ok, bitsText(want))
	}
}

func TestResponsesOfFails(t *testing.T) {
	for _, count := range []int64{0, -1, 257, math.MaxInt64, math.MinInt64, 1 << 32, 1<<32 + 1, 1 << 62} {
		got, ok := impl.ResponsesOf(quietTube(1, 2), count)
		wantNoList(t, fmt.Sprintf("ResponsesOf with the count %d", count), got, ok)
		got, ok = impl.FormantsOf(quietTube(1, 2), count, 1)
		wantNoList(t, fmt.Sprintf("FormantsOf with the count %d", count), got, ok)
	}
	// Closed tubes have no answer at the first turn, or at the second of two.
	for _, bad := range append(badTubes(), tubeOf(1, 1, 1, 1), tubeOf(1, 1, -1, 1), quietTube(1, 0x1p30), tubeOf(least, 0, 0, 1)) {
		got, ok := impl.ResponsesOf(bad, 2)
		wantNoList(t, fmt.Sprint("ResponsesOf ", bad), got, ok)
		for _, most := range []int64{0, 1, 16} {
			got, ok = impl.FormantsOf(bad, 2, most)
			wantNoList(t, fmt.Sprint("FormantsOf ", bad), got, ok)
		}
	}
}

func TestPeaksOf(t *testing.T) {
	hills := []float32{}
	want := []int64{}
	for i := range int64(256) {
		hills = append(hills, float32(i%2))
		if i%2 == 1 && i < 255 {
			want = append(want, i)
		}
	}
	for _, c := range []struct {
		list []float32
		want []int64
	}{
		{nil, nil}, {[]float32{1}, nil}, {[]float32{1, 2}, nil}, {[]float32{2, 1}, nil}, {[]float32{1, 2, 1}, []int64{1}}, {[]float32{2, 1, 2}, nil}, {[]float32{1, 3, 2, 2, 5, 1}, []int64{1, 4}},
		{[]float32{3, 2, 1}, nil}, {[]float32{1, 2, 3}, nil}, {[]float32{1, 2, 2, 1}, nil}, {[]float32{1, 1, 2, 1, 1}, []int64{2}}, {[]float32{1, 1, 1}, nil}, {[]float32{5, 1, 2, 1, 5}, []int64{2}},
		{[]float32{-3, -2, -4}, []int64{1}}, {[]float32{minus0, 0, minus0}, nil}, {[]float32{0, least, 0}, []int64{1}}, {[]float32{-most, most, -most}, []int64{1}}, {hills, want},
	} {
		got, ok := impl.PeaksOf(c.list)
		if !ok || fmt.Sprint(got) != fmt.Sprint(c.want) {
			t.Errorf("PeaksOf %v: got %v %v, want %v", c.list, got, ok, c.want)
		}
	}
	got, ok := impl.PeaksOf(repeat(float32(1), 257))
	wantNoList(t, "PeaksOf 257 numbers", got, ok)
	for _, bad := range badNumbers() {
		for _, list := range [][]float32{{bad}, {1, bad, 1}, {bad, 2, 1}, {1, 2, bad}, {1, 2, 1, 1, bad}} {
			got, ok := impl.PeaksOf(list)
			wantNoList(t, fmt.Sprint("PeaksOf ", list), got, ok)
		}
	}
}

func TestFormantsOf(t *testing.T) {
	eight, _ := impl.EvenTube(8, 1)
	sixteen, _ := impl.EvenTube(16, 3)
	horn, _ := impl.HornTube(5, 1, 8)
	for _, c := range []struct {
		tube        impl.Tube
		count, most int64
		want        string
	}{
		// An even tube rings at odd quarters of its length.
		{eight, 64, 16, "3d000000,3dc00000,3e200000,3e600000,3e900000,3eb00000,3ed00000,3ef00000"}, {eight, 64, 8, "3d000000,3dc00000,3e200000,3e600000,3e900000,3eb00000,3ed00000,3ef00000"},
		{eight, 64, 3, "3d000000,3dc00000,3e200000"}, {eight, 256, 1, "3d000000"}, {eight, 64, 0, ""}, {eight, 1, 16, ""}, {eight, 2, 16, ""}, {quietTube(1), 2, 2, ""},
		{sixteen, 256, 16, "3c800000,3d400000,3da00000,3de00000,3e100000,3e300000,3e500000,3e700000,3e880000,3e980000,3ea80000,3eb80000,3ec80000,3ed80000,3ee80000,3ef80000"},
		{horn, 128, 16, "3d980000,3e280000,3e800000,3eac0000,3eda0000"}, {horn, 128, 2, "3d980000,3e280000"},
	} {
		got, ok := impl.FormantsOf(c.tube, c.count, c.most)
		wantNumbers(t, fmt.Sprint("FormantsOf ", c), got, ok, c.want)
	}
	for _, most := range []int64{-1, 17, math.MinInt64, math.MaxInt64, 1 << 32} {
		got, ok := impl.FormantsOf(eight, 64, most)
		wantNoList(t, fmt.Sprintf("FormantsOf, at most %d", most), got, ok)
	}
}
