package tests

import (
	"fmt"
	"math"
	"testing"

	"loop.example/g01279/impl"
)

func TestValidEnvelope(t *testing.T) {
	for _, e := range goodEnvelopes() {
		wantBool(t, fmt.Sprint("ValidEnvelope ", e), impl.ValidEnvelope(e), true)
	}
	for _, e := range badEnvelopes() {
		wantBool(t, fmt.Sprint("ValidEnvelope ", e), impl.ValidEnvelope(e), false)
	}
}

func TestSameEnvelope(t *testing.T) {
	both := func() []impl.Envelope {
		return []impl.Envelope{
			{}, {Times: []int64{1}}, {Levels: []float32{1}}, {Times: []int64{1}, Levels: []float32{1}}, {Times: []int64{2}, Levels: []float32{1}}, {Times: []int64{1}, Levels: []float32{2}},
			{Times: []int64{1, 2}, Levels: []float32{1}}, {Times: []int64{1}, Levels: []float32{1, 2}}, {Times: []int64{1, 2}, Levels: []float32{1, 2}}, {Times: []int64{2, 1}, Levels: []float32{1, 2}},
			{Times: []int64{1, 2}, Levels: []float32{2, 1}}, {Times: []int64{0}, Levels: []float32{0}}, {Times: []int64{0}, Levels: []float32{minus0}}, {Times: []int64{0}, Levels: []float32{nan}},
			{Times: []int64{0}, Levels: []float32{inf}}, {Times: []int64{-1}, Levels: []float32{0}}, {Times: []int64{math.MinInt64}, Levels: []float32{0}}, {Times: []int64{1 << 32}, Levels: []float32{0}},
			{Times: repeat(int64(1), 300), Levels: repeat(nan, 300)},
		}
	}
	list, again := both(), both()
	for i, a := range list {
		for j, b := range again {
			wantBool(t, fmt.Sprint("SameEnvelope ", a, b), impl.SameEnvelope(a, b), i == j)
		}
	}
	wantBool(t, "SameEnvelope of nil and empty lists", impl.SameEnvelope(impl.Envelope{}, impl.Envelope{Times: []int64{}, Levels: []float32{}}), true)
	for _, bits := range otherNN {
		x := math.Float32frombits(bits)
		wantBool(t, "SameEnvelope of not-a-numbers", impl.SameEnvelope(impl.Envelope{Levels: []float32{x}}, impl.Envelope{Levels: []float32{nan}}), true)
	}
}

func TestEnvelopeAt(t *testing.T) {
	sixteen := "0,10,20,30,40,50,60,70,80,90,100,110,120,130,140,150"
	levels := "c0400000,c0000000,3f800000,bf800000,bf800000,3f800000,c0000000,c0400000,c0000000,3f800000,bf800000,bf800000,3f800000,c0000000,c0400000,c0000000"
	for _, c := range []struct {
		times, levels string
		time          int64
		want          string
	}{
		{"5", "40400000", 5, "40400000"}, {"5", "40400000", 4, "40400000"}, {"5", "40400000", 6, "40400000"}, {"5", "80000000", math.MinInt64, "80000000"}, {"5", "40400000", math.MaxInt64, "40400000"},
		{"1,3", "00000000,3f800000", math.MinInt64, "00000000"}, {"1,3", "00000000,3f800000", 1, "00000000"}, {"1,3", "00000000,3f800000", 2, "3f000000"}, {"1,3", "00000000,3f800000", 3, "3f800000"},
		{"1,3", "00000000,3f800000", 4, "3f800000"}, {"1,3", "80000000,80000000", 1, "80000000"}, {"1,3", "80000000,80000000", 2, "00000000"}, {"1,3", "00000000,3f800000", math.MaxInt64, "3f800000"},
		{sixteen, levels, -1, "c0400000"}, {sixteen, levels, 0, "c0400000"}, {sixteen, levels, 1, "c039999a"}, {sixteen, levels, 5, "c0200000"}, {sixteen, levels, 10, "c0000000"},
		{sixteen, levels, 75, "c0200000"}, {sixteen, levels, 149, "c0066666"}, {sixteen, levels, 150, "c0000000"}, {sixteen, levels, 151, "c0000000"},
		{"0,1000000", "bf800000,40000000", 1, "bf7fffce"}, {"0,1000000", "bf800000,40000000", 333333, "b5900000"}, {"0,1000000", "bf800000,40000000", 999999, "3fffffe6"}, {"0,1000000", "bf800000,40000000", 1000000, "40000000"},
		// Here a last bit differs if an operation is not rounded on its own, or made otherwise.
		{"5,8,30", "bef54d8b,c034e329,3e1059dd", 15, "bff0ec5f"}, {"13,23,24,25", "c00217e1,3f988760,40284ede,c0260d28", 21, "3f0bf8b4"}, {"28,35", "bfbd9ec0,bf461b0c", 32, "bf89de0c"},
		{"11,30", "bf8570f0,3cc3a546", 18, "bf264e05"}, {"4,5,12,23,37", "40209b7c,40143f84,bf68027f,3d9d0c8d,3faabca0", 7, "3fb2a386"}, {"13,16,28,32,37", "c036f5ab,3fd33383,3e8ac483,4009da97,402c4cff", 15, "3e169f30"},
		{"0,6,8,12", "3f92d412,bfe16e3d,3f7a0b8b,402ddbb8", 1, "3f299209"},
		// At a time between the first and the last one, the level is told as between two times.
		{"9,16,24,27,31", "3d9171f5,bf7d9284,400491e9,be86a9b5,40043dd1", 27, "be86a9b8"}, {"4,7,9,12,20", "c003be1a,bf87e161,3fd284b4,c02822b3,3fcddaa8", 12, "c02822b2"},
	} {
		got, ok := impl.EnvelopeAt(toldEnvelope(c.times, c.levels), c.time)
		wantSum(t, fmt.Sprint("EnvelopeAt ", c), got, ok, toldNumber(c.want))
	}
}

func TestEnvelopeAtFails(t *testing.T) {
	for _, bad := range badEnvelopes() {
		for _, time := range []int64{-1, 0, 1, 2, 1000001} {
			got, ok := impl.EnvelopeAt(bad, time)
			wantFailed(t, fmt.Sprint("EnvelopeAt ", bad, time), got, ok)
		}
	}
	// The difference of both levels is infinite, also at the later time, if there are others behind.
	far := impl.Envelope{Times: []int64{2, 4, 6}, Levels: []float32{most, -most, 0}}
	for time, want := range map[int64]float32{1: most, 2: most, 5: -most / 2, 6: 0, 7: 0} {
		got, ok := impl.EnvelopeAt(far, time)
		wantSum(t, fmt.Sprint("EnvelopeAt ", far, time), got, ok, want)
	}
	for _, time := range []int64{3, 4} {
		got, ok := impl.EnvelopeAt(far, time)
		wantFailed(t, fmt.Sprint("EnvelopeAt ", far, time), got, ok)
	}
}

func TestShapeBy(t *testing.T) {
	for _, c := range []struct{ sound, times, levels, want string }{
		{"", "1,3", "00000000,3f800000", ""}, {"40000000,40000000,40000000,40000000", "1,3", "00000000,3f800000", "00000000,00000000,3f800000,40000000"}, {"40400000,80000000,c0400000", "1000000", "bf000000", "bfc00000,00000000,3fc00000"},
		{"7f7fffff,ff7fffff", "0", "3f800000", "7f7fffff,ff7fffff"},
		{"c002c01a,c006b864,3f895a52,bfa26408,bff33858,bf41ed06,bfed355b,400d96c7,c00828d0", "0,1,2,3", "3f4f2d2a,3e0c0ebd,bffa0812,401de38a", "bfd3a0cc,be93692f,c0062689,c0484f5e,c09601bc,bfef3575,c0924c8f,40aea6a2,c0a7f41a"},
		{"bfd847d9,c03bb6d8,3ffa28f7,400d81a4,3f23cfdb", "1,6", "bfdc33ab,bd805099", "403a0965,40a17704,c02db5cb,c0159bd6,beedc3a1"},
		{"bea22ffb,4035f502,3e6a7120,be521d67,c021d68c,bf881203,bd9aec6a,bfba27e8,bf76be70", "5,6", "40294a59,bfa74ce7", "bf56818e,40f0a72d,3f1b08c4,bf0af26f,c0d60b45,c033f6d1,3dca7d86,3ff34fe8,3fa1405a"},
	} {
		got, ok := impl.ShapeBy(told(c.sound), toldEnvelope(c.times, c.levels))
		wantNumbers(t, fmt.Sprint("ShapeBy ", c), got, ok, c.want)
	}
	long := make([]float32, 256)
	for k := range long {
		long[k] = float32(k*37%11 - 5)
	}
	got, ok := impl.ShapeBy(long, impl.Envelope{Times: []int64{100, 255}, Levels: []float32{0.3, -0.7}})
	if !ok || len(got) != 256 {
		t.Fatalf("ShapeBy of 256 numbers: got %v %v", got, ok)
	}
	wantNumbers(t, "ShapeBy of 256 numbers", []float32{got[99], got[100], got[177], got[254], got[255]}, ok, "bfc00000,be99999a,3e497f2c,3f318c63,c0066666")
}

func TestShapeByFails(t *testing.T) {
	for _, bad := range badEnvelopes() {
		for _, sound := range [][]float32{nil, {0}, {1, 2, 3}} {
			got, ok := impl.ShapeBy(sound, bad)
			wantNoList(t, fmt.Sprint("ShapeBy ", sound, bad), got, ok)
		}
	}
	for _, bad := range badSounds() {
		got, ok := impl.ShapeBy(bad, impl.Envelope{Times: []int64{0, 2}, Levels: []float32{0, 1}})
		wantNoList(t, fmt.Sprint("ShapeBy ", bad), got, ok)
	}
	// A product is infinite; or there is no level where the sound is 0.
	got, ok := impl.ShapeBy([]float32{0, most}, impl.Envelope{Times: []int64{0}, Levels: []float32{2}})
	wantNoList(t, "ShapeBy with an infinite product", got, ok)
	far := impl.Envelope{Times: []int64{0, 2}, Levels: []float32{most, -most}}
	got, ok = impl.ShapeBy([]float32{0, 0, 0}, far)
	wantNoList(t, "ShapeBy without a level", got, ok)
	got, ok = impl.ShapeBy([]float32{1}, far)
	wantNumbers(t, "ShapeBy where there are levels", got, ok, "7f7fffff")
}
