package tests

import (
	"fmt"
	"math"
	"testing"

	"loop.example/g01279/impl"
)

func TestValidTube(t *testing.T) {
	for _, tube := range goodTubes() {
		wantBool(t, fmt.Sprint("ValidTube ", tube), impl.ValidTube(tube), true)
	}
	for _, tube := range badTubes() {
		wantBool(t, fmt.Sprint("ValidTube ", tube), impl.ValidTube(tube), false)
	}
}

// notTheSame are tubes that differ, some of them only by the sign of a zero, and some of which are not valid.
func notTheSame() []impl.Tube {
	return []impl.Tube{
		{}, quietTube(), quietTube(1), quietTube(2), quietTube(1, 2), quietTube(1, 3), quietTube(2, 1), quietTube(1, 2, 3), quietTube(0), quietTube(minus0), quietTube(nan), quietTube(inf),
		tubeOf(0.5, 0, 0, 1, 2), tubeOf(nan, 0, 0, 1, 2), tubeOf(0, 0, 0, 1, 2), tubeOf(minus0, 0, 0, 1, 2),
		tubeOf(1, minus0, 0, 1, 2), tubeOf(1, 0.5, 0, 1, 2), tubeOf(1, nan, 0, 1, 2), tubeOf(1, 0, minus0, 1, 2), tubeOf(1, 0, 0.5, 1, 2), tubeOf(1, 0, nan, 1, 2),
		quietTube(repeat(float32(1), 17)...), quietTube(repeat(float32(1), 300)...),
	}
}

func TestSameTube(t *testing.T) {
	list, again := notTheSame(), notTheSame()
	for i, a := range list {
		for j, b := range again {
			wantBool(t, fmt.Sprint("SameTube ", a, b), impl.SameTube(a, b), i == j)
		}
	}
	wantBool(t, "SameTube of nil and no areas", impl.SameTube(impl.Tube{}, impl.Tube{Areas: []float32{}}), true)
	for _, bits := range otherNN {
		x := math.Float32frombits(bits)
		wantBool(t, "SameTube of not-a-numbers", impl.SameTube(tubeOf(x, x, x, 1, x), tubeOf(nan, nan, nan, 1, nan)), true)
	}
}

func TestEvenTube(t *testing.T) {
	for _, c := range []struct {
		count int64
		area  float32
	}{{1, 1}, {2, 4}, {16, 0.1}, {3, least}, {16, most}} {
		got, ok := impl.EvenTube(c.count, c.area)
		wantTube(t, fmt.Sprint("EvenTube ", c), got, ok, tubeOf(1, 0.75, -0.875, repeat(c.area, int(c.count))...))
	}
	for _, count := range []int64{0, -1, 17, 18, math.MinInt64, math.MaxInt64, 1 << 32, 1<<32 + 1} {
		got, ok := impl.EvenTube(count, 1)
		wantNoTube(t, fmt.Sprintf("EvenTube(%d, 1)", count), got, ok)
	}
	for _, area := range append(badNumbers(), 0, minus0, -1, -least) {
		got, ok := impl.EvenTube(2, area)
		wantNoTube(t, fmt.Sprintf("EvenTube(2, %v)", area), got, ok)
	}
}

func TestHornTube(t *testing.T) {
	for _, c := range []struct {
		count    int64
		from, to float32
		want     string
	}{
		{2, 1, 3, "3f800000,40400000"}, {3, 1, 2, "3f800000,3fc00000,40000000"}, {5, 9, 1, "41100000,40e00000,40a00000,40400000,3f800000"},
		{4, 2, 2, "40000000,40000000,40000000,40000000"}, {2, most, most, "7f7fffff,7f7fffff"}, {2, least, least, "00000001,00000001"},
		{16, 1, 2.7, "3f800000,3f8e81b5,3f9d036a,3fab851f,3fba06d4,3fc88889,3fd70a3e,3fe58bf2,3ff40da8,400147ae,40088889,400fc963,40170a3e,401e4b18,40258bf2,402ccccd"},
		// Here a last bit differs if the product is not rounded, or divided instead of multiplied by a quotient; and the last area is not to.
		{8, 0.78, 7.57, "3f47ae14,3fe00000,402e147b,406c28f6,40951eb8,40b428f6,40d33334,40f23d70"},
		{7, 5.22, 0.65, "40a70a3d,408eaaaa,406c962f,403bd70a,400b17e4,3fb4b180,3f266668"},
		{8, 6.66, 0.15, "40d51eb8,40b75c29,40999999,4077ae14,403c28f5,4000a3d6,3f8a3d70,3e1999a0"},
	} {
		got, ok := impl.HornTube(c.count, c.from, c.to)
		wantTube(t, fmt.Sprint("HornTube ", c), got, ok, tubeOf(1, 0.75, -0.875, told(c.want)...))
	}
	for _, count := range []int64{1, 0, -1, 17, 18, math.MinInt64, math.MaxInt64, 1<<32 + 2} {
		got, ok := impl.HornTube(count, 1, 2)
		wantNoTube(t, fmt.Sprintf("HornTube(%d, 1, 2)", count), got, ok)
	}
	for _, bad := range append(badNumbers(), 0, minus0, -1, -least) {
		got, ok := impl.HornTube(3, bad, 1)
		wantNoTube(t, fmt.Sprintf("HornTube(3, %v, 1)", bad), got, ok)
		got, ok = impl.HornTube(3, 1, bad)
		wantNoTube(t, fmt.Sprintf("HornTube(3, 1, %v)", bad), got, ok)
	}
	// The difference is rounded to -1, so that the last area is 0.
	got, ok := impl.HornTube(2, 1, least)
	wantNoTube(t, "HornTube(2, 1, least)", got, ok)
	// The difference is infinite.
	got, ok = impl.HornTube(3, -most, most)
	wantNoTube(t, "HornTube(3, -most, most)", got, ok)
}

func TestSetEnds(t *testing.T) {
	for _, tube := range goodTubes() {
		for _, ends := range [][]float32{{0.5, 1, 0}, {1, -1, 1}, {least, minus0, -0.25}, {1, 1, -1}, {0.25, 0.5, -0.5}} {
			got, ok := impl.SetEnds(tube, ends[0], ends[1], ends[2])
			wantTube(t, fmt.Sprint("SetEnds ", tube, ends), got, ok, tubeOf(ends[0], ends[1], ends[2], tube.Areas...))
		}
	}
	for _, bad := range badTubes() {
		got, ok := impl.SetEnds(quietTube(1, 2), bad.Loss, bad.Throat, bad.Lips)
		if ok != (bad.Loss == 1 && bad.Throat == 0 && bad.Lips == 0) {
			t.Errorf("SetEnds to those of %v: got %v %v", bad, got, ok)
		}
		// Other ends do not mend a tube.
		got, ok = impl.SetEnds(bad, 1, 0, 0)
		wantNoTube(t, fmt.Sprint("SetEnds ", bad), got, ok)
	}
	got, ok := impl.SetEnds(quietTube(1), 2, 0, 0)
	wantNoTube(t, "SetEnds with the Loss 2", got, ok)
}

func TestMixTubes(t *testing.T) {
	for _, c := range []struct {
		a, b  string
		share float32
		want  string
	}{
		{"3f800000,40400000", "40400000,3f800000", 0.5, "40000000,40000000"}, {"3f800000,40400000", "40400000,3f800000", 0, "3f800000,40400000"},
		{"3f800000,40400000", "40400000,3f800000", 1, "40400000,3f800000"}, {"3f800000,40400000", "40400000,3f800000", minus0, "3f800000,40400000"},
		{"3f800000", "40a00000", 0.25, "40000000"}, {"7f7fffff", "00000001", 0.5, "7effffff"}, {"00000001", "7f7fffff", 1, "7f7fffff"},
		{bitsText(repeat(float32(1), 16)), bitsText(repeat(float32(2), 16)), 0.25, bitsText(repeat(float32(1.25), 16))},
		// Here a last bit differs if the product is not rounded, or if both areas are multiplied by their shares.
		{"3fee727c,403dd567,3ffaf7c3", "4089e362,406bebdc,4023c8db", 0.68, "4061adf6,405d2c5a,40178744"},
		{"40950d1c,40c145a2,3fb29878", "3f388c46,3f31776c,3e54f270", 0.3, "405e8346,408df206,3f85009e"},
		{"40ba6ce6,3fa0706b,40c2a6dc", "40f2e913,405520ef,40aa2c54", 0.77, "40e5eb3c,40368f40,40afcda1"},
	} {
		a, b := tubeOf(0.75, 0.5, -0.5, told(c.a)...), tubeOf(1, 1, -1, told(c.b)...)
		got, ok := impl.MixTubes(a, b, c.share)
		wantTube(t, fmt.Sprint("MixTubes ", c), got, ok, tubeOf(0.75, 0.5, -0.5, told(c.want)...))
	}
	a := quietTube(1, 2)
	for _, share := range append(badNumbers(), -least, math.Nextafter32(1, 2), 2, -1) {
		got, ok := impl.MixTubes(a, a, share)
		wantNoTube(t, fmt.Sprint("MixTubes with the share ", share), got, ok)
	}
	for _, b := range []impl.Tube{{}, quietTube(1), quietTube(1, 2, 3)} {
		got, ok := impl.MixTubes(a, b, 0)
		wantNoTube(t, fmt.Sprint("MixTubes with ", b), got, ok)
		got, ok = impl.MixTubes(b, a, 1)
		wantNoTube(t, fmt.Sprint("MixTubes of ", b), got, ok)
	}
	for _, bad := range badTubes() {
		// With these shares, none of the bad numbers gets into the areas of the result.
		even := quietTube(repeat(float32(2), len(bad.Areas))...)
		got, ok := impl.MixTubes(even, bad, 0)
		wantNoTube(t, fmt.Sprint("MixTubes with ", bad), got, ok)
		got, ok = impl.MixTubes(bad, even, 1)
		wantNoTube(t, fmt.Sprint("MixTubes of ", bad), got, ok)
	}
	// The difference is rounded to -1, so that the area is 0.
	got, ok := impl.MixTubes(quietTube(1), quietTube(least), 1)
	wantNoTube(t, "MixTubes of 1 and least", got, ok)
}

func TestScaleTube(t *testing.T) {
	for _, c := range []struct {
		areas string
		by    float32
		want  string
	}{
		{"3f800000,40400000", 2, "40000000,40c00000"}, {"3f800000,40400000", 1, "3f800000,40400000"}, {"40400000", 0.1, "3e99999a"},
		{"3f800000,00800000", least, ""}, {"3f800000", least, "00000001"}, {"00000001", 0.75, "00000001"}, {"00000001", 0.5, ""}, {"00000003", 0.5, "00000002"},
		{"7effffff", 2, "7f7fffff"}, {"7f000000", 2, ""}, {"3f800000,7f000000", 2, ""}, {"00000001", most, "34ffffff"},
		{bitsText(repeat(float32(3), 16)), 0.5, bitsText(repeat(float32(1.5), 16))},
		{"3f800000", 0, ""}, {"3f800000", minus0, ""}, {"3f800000", -1, ""}, {"3f800000", inf, ""}, {"3f800000", -inf, ""}, {"3f800000", nan, ""},
	} {
		got, ok := impl.ScaleTube(tubeOf(0.75, 0.5, -0.5, told(c.areas)...), c.by)
		if c.want == "" {
			wantNoTube(t, fmt.Sprint("ScaleTube ", c), got, ok)
			continue
		}
		wantTube(t, fmt.Sprint("ScaleTube ", c), got, ok, tubeOf(0.75, 0.5, -0.5, told(c.want)...))
	}
	for _, bad := range badTubes() {
		got, ok := impl.ScaleTube(bad, 0.5)
		wantNoTube(t, fmt.Sprint("ScaleTube ", bad), got, ok)
	}
}

func TestBackTube(t *testing.T) {
	for _, c := range []struct{ tube, want impl.Tube }{
		{tubeOf(0.9, 0.5, -0.25, 1, 3), tubeOf(0.9, -0.25, 0.5, 3, 1)}, {tubeOf(1, 1, -1, 5), tubeOf(1, -1, 1, 5)}, {tubeOf(1, 0, minus0, 1, 2, 4), tubeOf(1, minus0, 0, 4, 2, 1)},
		{quietTube(1, 2, 3, 4, 5, 6, 7, 8, 9, 10, 11, 12, 13, 14, 15, 16), quietTube(16, 15, 14, 13, 12, 11, 10, 9, 8, 7, 6, 5, 4, 3, 2, 1)},
	} {
		got, ok := impl.BackTube(c.tube)
		wantTube(t, fmt.Sprint("BackTube ", c.tube), got, ok, c.want)
	}
	for _, tube := range goodTubes() {
		back, _ := impl.BackTube(tube)
		got, ok := impl.BackTube(back)
		wantTube(t, fmt.Sprint("BackTube of BackTube ", tube), got, ok, tube)
	}
	for _, bad := range badTubes() {
		got, ok := impl.BackTube(bad)
		wantNoTube(t, fmt.Sprint("BackTube ", bad), got, ok)
	}
}

func TestJoinTubes(t *testing.T) {
	for _, c := range []struct{ a, b, want impl.Tube }{
		{tubeOf(0.9, 0.5, -0.25, 1, 3), tubeOf(0.8, 1, -1, 3, 1), tubeOf(0.9, 0.5, -1, 1, 3, 3, 1)}, {tubeOf(1, 0, 1, 1), tubeOf(0.5, -1, 0, 2, 3), tubeOf(1, 0, 0, 1, 2, 3)},
		{quietTube(repeat(float32(1), 15)...), quietTube(2), quietTube(append(repeat(float32(1), 15), 2)...)},
		{quietTube(2), quietTube(repeat(float32(1), 15)...), quietTube(append([]float32{2}, repeat(float32(1), 15)...)...)},
		{quietTube(repeat(float32(3), 8)...), quietTube(repeat(float32(4), 8)...), quietTube(append(repeat(float32(3), 8), repeat(float32(4), 8)...)...)},
	} {
		got, ok := impl.JoinTubes(c.a, c.b)
		wantTube(t, fmt.Sprint("JoinTubes ", c.a, c.b), got, ok, c.want)
	}
	for _, c := range [][2]int{{16, 1}, {1, 16}, {9, 8}, {16, 16}} {
		got, ok := impl.JoinTubes(quietTube(repeat(float32(1), c[0])...), quietTube(repeat(float32(1), c[1])...))
		wantNoTube(t, fmt.Sprint("JoinTubes of so many sections: ", c), got, ok)
	}
	for _, bad := range badTubes() {
		got, ok := impl.JoinTubes(bad, quietTube(1))
		wantNoTube(t, fmt.Sprint("JoinTubes ", bad), got, ok)
		got, ok = impl.JoinTubes(quietTube(1), bad)
		wantNoTube(t, fmt.Sprint("JoinTubes with ", bad), got, ok)
	}
}

func TestPinchTube(t *testing.T) {
	for _, c := range []struct {
		areas []float32
		i     int64
		share float32
		want  string
	}{
		{[]float32{1, 3, 2}, 0, 0.25, "3e800000,3fc00000,40000000"}, {[]float32{1, 3, 2}, 1, 0.25, "3f000000,3f400000,3f800000"},
		{[]float32{1, 3, 2}, 2, 0.25, "3f800000,3fc00000,3f000000"}, {[]float32{1, 3}, 0, 0.25, "3e800000,3fc00000"}, {[]float32{1, 3}, 1, 4, "40000000,41400000"},
		{[]float32{1.5}, 0, 0.3, "3ee66667"}, {[]float32{1, 3, 2}, 1, 0.3, "3f0c378c,3f666667,3f8c378c"}, {[]float32{1, 3, 2, 5}, 2, 7, "3f800000,40fdfdfc,41600000,4153a8fc"},
		{[]float32{1.1, 3.3, 2.7}, 1, 0.7, "3f6b9a7d,4013d70a,4010932a"}, {[]float32{1, 2}, 0, 1, "3f800000,40000000"},
		{[]float32{1}, 0, least, "00000001"}, {[]float32{1}, 0, most, "7f7fffff"},
	} {
		got, ok := impl.PinchTube(tubeOf(0.75, 0.5, -0.5, c.areas...), c.i, c.share)
		wantTube(t, fmt.Sprint("PinchTube ", c), got, ok, tubeOf(0.75, 0.5, -0.5, told(c.want)...))
	}
	tube := quietTube(1, 2, 3)
	for _, i := range []int64{-1, 3, 4, 16, math.MinInt64, math.MaxInt64, 1 << 32, 1<<32 + 1} {
		got, ok := impl.PinchTube(tube, i, 1)
		wantNoTube(t, fmt.Sprintf("PinchTube of %d", i), got, ok)
	}
	for _, share := range append(badNumbers(), 0, minus0, -1, -least) {
		got, ok := impl.PinchTube(tube, 1, share)
		wantNoTube(t, fmt.Sprintf("PinchTube with the share %v", share), got, ok)
	}
	for _, bad := range badTubes() {
		got, ok := impl.PinchTube(bad, 0, 1)
		wantNoTube(t, fmt.Sprint("PinchTube ", bad), got, ok)
	}
	// An area that becomes infinite or 0: the section's own, or a neighbour's.
	for _, c := range []struct {
		tube  impl.Tube
		i     int64
		share float32
	}{{quietTube(most), 0, 2}, {quietTube(1, most), 0, 4}, {quietTube(most, 1), 1, 4}, {quietTube(least), 0, 0.5}, {quietTube(1, least), 0, 0.25}, {quietTube(least, 1), 1, 0.25}} {
		got, ok := impl.PinchTube(c.tube, c.i, c.share)
		wantNoTube(t, fmt.Sprint("PinchTube ", c), got, ok)
	}
}

func TestVolumeOf(t *testing.T) {
	for _, c := range []struct {
		areas []float32
		want  float32
	}{
		{[]float32{5}, 5}, {[]float32{1, 3, 2}, 6}, {repeat(float32(2), 16), 32}, {repeat(float32(0.1), 16), toldNumber("3fcccccf")}, {[]float32{most}, most},
		{[]float32{least, least}, 2 * least},
		// In order, each sum rounded.
		{[]float32{0x1p24, 1, 1}, 0x1p24}, {[]float32{1, 1, 0x1p24}, 0x1p24 + 2},
	} {
		got, ok := impl.VolumeOf(quietTube(c.areas...))
		wantSum(t, fmt.Sprint("VolumeOf ", c.areas), got, ok, c.want)
	}
	for _, bad := range append(badTubes(), quietTube(most, most), quietTube(1, most, 0x1p103)) {
		got, ok := impl.VolumeOf(bad)
		wantFailed(t, fmt.Sprint("VolumeOf ", bad), got, ok)
	}
}

func TestNarrowestOf(t *testing.T) {
	for _, c := range []struct {
		areas []float32
		at    int64
	}{{[]float32{5}, 0}, {[]float32{1, 3}, 0}, {[]float32{3, 1}, 1}, {[]float32{3, 1, 2, 1}, 1}, {[]float32{2, 2, 2}, 0}, {append(repeat(float32(2), 15), 1), 15}, {[]float32{most, least, normal}, 1}} {
		at, area, ok := impl.NarrowestOf(quietTube(c.areas...))
		wantSum(t, fmt.Sprint("NarrowestOf ", c.areas), area, ok, c.areas[c.at])
		if at != c.at {
			t.Errorf("NarrowestOf %v: got %d, want %d", c.areas, at, c.at)
		}
	}
	for _, bad := range badTubes() {
		at, area, ok := impl.NarrowestOf(bad)
		wantFailed(t, fmt.Sprint("NarrowestOf ", bad), area, ok)
		wantFailed(t, fmt.Sprint("NarrowestOf ", bad), at, ok)
	}
}

func TestReflectionsOf(t *testing.T) {
	for _, c := range []struct {
		areas []float32
		want  string
	}{
		{[]float32{7}, ""}, {[]float32{1, 3}, "bf000000"}, {[]float32{3, 1}, "3f000000"}, {[]float32{1, 1}, "00000000"},
		{[]float32{2, 7, 1.5, 1.5, 0.1}, "bf0e38e4,3f25a5a6,00000000,3f600000"}, {repeat(float32(5), 16), bitsText(repeat(float32(0), 15))},
		// What is reflected can be all.
		{[]float32{1, 0x1p30}, "bf800000"}, {[]float32{0x1p30, 1}, "3f800000"}, {[]float32{least, most, least}, "bf800000,3f800000"},
		// An infinite sum makes a zero.
		{[]float32{most, most}, "00000000"}, {[]float32{0x1p127, most, 0x1p127}, "80000000,00000000"}, {[]float32{least, least, 3 * least}, "00000000,bf000000"},
	} {
		got, ok := impl.ReflectionsOf(tubeOf(0.5, 1, -1, c.areas...))
		wantNumbers(t, fmt.Sprint("ReflectionsOf ", c.areas), got, ok, c.want)
	}
	for _, bad := range badTubes() {
		got, ok := impl.ReflectionsOf(bad)
		wantNoList(t, fmt.Sprint("ReflectionsOf ", bad), got, ok)
	}
}

func TestAreasFrom(t *testing.T) {
	almost := math.Nextafter32(1, 0)
	for _, c := range []struct {
		reflections []float32
		area        float32
		want        string
	}{
		{nil, 2.5, "40200000"}, {[]float32{}, least, "00000001"}, {nil, most, "7f7fffff"}, {[]float32{-0.5}, 1, "3f800000,40400000"}, {[]float32{0.5, -0.5, 0}, 3, "40400000,3f800000,40400000,40400000"},
		{[]float32{minus0}, 1, "3f800000,3f800000"}, {[]float32{0.5, -0.25, 0.9}, 3, "40400000,3f800000,3fd55555,3db3a62f"},
		{repeat(float32(0.1), 15), 1, "3f800000,3f51745c,3f2b5f33,3f0c369d,3ee570a3,3ebbb93f,3e999790,3e7b5519,3e4da2b6,3e283f4e,3e09a828,3de141b5,3db84d07,3d96caa8,3d76bffa,3d49e2e3"},
		{[]float32{almost}, 1, "3f800000,33000000"}, {[]float32{-almost}, 1, "3f800000,4c000000"},
		// Here a last bit differs if an area is multiplied before it is divided, or the quotient is not rounded.
		{[]float32{0.48, -0.61, 0.53}, 1.7, "3fd9999a,3f18e879,401dcf1b,3f41e8bc"}, {[]float32{-0.89, 0.32, -0.29}, 3.1, "40466666,42550df5,41db82c0,42476a28"},
		{[]float32{0.45, 0.62, -0.87}, 7.2, "40e66666,402ec944,3f23ff36,41137086"},
	} {
		got, ok := impl.AreasFrom(c.reflections, c.area)
		wantNumbers(t, fmt.Sprint("AreasFrom ", c.reflections, c.area), got, ok, c.want)
	}
	for _, area := range append(badNumbers(), 0, minus0, -1, -least) {
		for _, reflections := range [][]float32{nil, {0.5}, {-0.5, 0.5}} {
			got, ok := impl.AreasFrom(reflections, area)
			wantNoList(t, fmt.Sprint("AreasFrom ", reflections, area), got, ok)
		}
	}
	for _, r := range append(badNumbers(), 1, -1, 1.5, -1.5, most, -most) {
		for _, reflections := range [][]float32{{r}, {r, 0}, {0, r}, {0, r, 0}} {
			got, ok := impl.AreasFrom(reflections, 1)
			wantNoList(t, fmt.Sprint("AreasFrom ", reflections), got, ok)
		}
	}
	for _, c := range []struct {
		reflections []float32
		area        float32
	}{
		{repeat(float32(0), 16), 1}, {repeat(float32(0), 17), 1}, {repeat(float32(0), 300), 1},
		// Areas that become 0, or infinite, at last or on the way.
		{repeat(float32(0.99), 15), normal}, {[]float32{0.5}, least}, {[]float32{0.5, -0.5}, least},
		{repeat(float32(-0.999), 14), most}, {[]float32{-0.5}, most}, {[]float32{-0.5, 0.5}, most},
	} {
		got, ok := impl.AreasFrom(c.reflections, c.area)
		wantNoList(t, fmt.Sprint("AreasFrom ", len(c.reflections), c), got, ok)
	}
}

func TestAreasAndReflectionsLeadToOneAnother(t *testing.T) {
	for _, areas := range [][]float32{{1}, {1, 3}, {0.3, 7, 2.5, 0.5, 4}, {1, 2, 4, 8, 16, 8, 4, 2, 1, 0.5, 0.25, 0.5, 1, 2, 4, 8}} {
		reflections, _ := impl.ReflectionsOf(quietTube(areas...))
		got, ok := impl.AreasFrom(reflections, areas[0])
		if !ok || len(got) != len(areas) {
			t.Fatalf("AreasFrom ReflectionsOf %v: got %v %v", areas, got, ok)
		}
		for k, area := range areas {
			if math.Abs(float64(got[k]/area)-1) > 1e-5 {
				t.Errorf("AreasFrom ReflectionsOf %v: got %v", areas, got)
			}
		}
	}
}
