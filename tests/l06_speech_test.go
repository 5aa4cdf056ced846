package tests

import (
	"fmt"
	"testing"

	"loop.example/g01279/impl"
)

func TestSpeakFrames(t *testing.T) {
	cases := [][6]string{
		{"a:3fa9fd5f:3f45c422,3e12140a,3ef819ce,3ed78d7d/ab:4089d042:4072245d,3f3df3a4,3f66bc27,3dbfdaa9/b:3f985312:40220e44,3f1d8b38,3f473edc,3de53ebf", "a-b-ab-a", "0110", "4370f300,3f525a68,c25e096a;408c4684,41536872,4008c50e", "3fc43fe6", "3fa9fd5f;4370f300,3ef819ce,3ed78d7d/3f985312;43520e4b,3f473edc,3de53ebf/3f985312;43383e2d,3f473edc,3de53ebf/4086946b;432136a7,3f65b6c5,3dc11107/4089d042;42eda12e,3f66bc27,3dbfdaa9/4089d042;429f8eb1,3f66bc27,3dbfdaa9/3fa9fd5f;4163d364,3ef819ce,3ed78d7d"},
		{"a:409b7131:3ff3b478,3fd3f65e,3f439bd6,3e9c77c4/ab:400f7eb2:3f4e3adc,3f67eeeb,3f1707a0,3f1f9ed9/b:40884c38:4042257a,3f8affe1,3f0a7242,3f2c0f6a", "a-a-a", "011", "43481d52,3f073659,c1a98a4e", "3f9155a6", "409b7131;43481d52,3f439bd6,3e9c77c4/409b7131;4338d588,3f439bd6,3e9c77c4/409b7131;43298dbf,3f439bd6,3e9c77c4/409b7131;431a45f4,3f439bd6,3e9c77c4/409b7131;430afe2b,3f439bd6,3e9c77c4/409b7131;42f76cc0,3f439bd6,3e9c77c4/409b7131;42c4f4ab,3f439bd6,3e9c77c4"},
		{"a:408c66bd:4010a536,3fe11800,3f3dfe03,3f7bdfe1/ab:4049f217:4048d247,3fc9d5e7,3eb824f8,3f7d1986", "ab-a-a", "000", "43182bf3,3f149231,4233593a;40eb1067,40baa3ee,4028f33d;40e72aad,4101b3bc,3f8e883c", "3f98534c", "4049f217;43182bf3,3eb824f8,3f7d1986/4049f217;430c366c,3eb824f8,3f7d1986/4049f217;430040e5,3eb824f8,3f7d1986/4055e60d;42e896bb,3ed5d454,3f7ce9fb/408bba72;42d0b0a0,3f3c5221,3f7be53c/408c66bd;42becefd,3f3dfe03,3f7bdfe1/408c66bd;42d2ce3b,3f3dfe03,3f7bdfe1/408c66bd;42d88e0f,3f3dfe03,3f7bdfe1"},
		{"a:40551d32:3f72cabe,3f8d8e86,3d0b1006,3f46f7bc/ab:3fd0edd2:3fb298c3,3f80d817,3e836e1e,3e7c753a/b:401df797:3ff63bb8,3fc733f6,3ebeae77,3f7b43cb", "a-b-b-ab", "0101", "4366c2da,3f6e74e1,429d43d0;404ab379,c1bdcae4,3f677703", "3f97669c", "40551d32;4366c2da,3d0b1006,3f46f7bc/4051bccc;43468ca5,3d5ff2fc,3f4a2b77/401f3585;43254024,3ebac760,3f7a164b/401df797;42ec2d24,3ebeae77,3f7b43cb/401df797;42cbd40c,3ebeae77,3f7b43cb/3ff18f0a;428b67a2,3e957f7e,3ef0f9fe/3fd0edd2;42a8ceb0,3e836e1e,3e7c753a"},
	}
	for _, c := range cases {
		got, ok := impl.SpeakFrames(toldTargets(c[0]), toldNames(c[1]), toldStress(c[2]), toldTune(c[3]), toldNumber(c[4]))
		wantMoments(t, fmt.Sprint("SpeakFrames ", c[:5]), got, ok, c[5])
	}
	for _, c := range []struct {
		names, stress string
		tune          impl.Tune
		step          float32
		want          []impl.Frame
	}{
		// Lengths of 2 and 6, so that the time 8 is exactly their sum.
		{"a-b", "00", tuneOf(8, 1, 0), 1, []impl.Frame{
			momentOf(8, 1, 0, 1, 5), momentOf(7, 1, 0, 1, 5), momentOf(6, 1, 0, 1, 5), momentOf(5, 0.5, 0.5, 3, 3), momentOf(4, 0, 1, 5, 1), momentOf(3, 0, 1, 5, 1), momentOf(2, 0, 1, 5, 1), momentOf(1, 0, 1, 5, 1),
		}},
		// Lengths of 2.5 and 6.
		{"a-b", "10", tuneOf(8, 1, 0), 2.125, []impl.Frame{
			momentOf(8, 1, 0, 1, 5), momentOf(6, 1, 0, 1, 5), momentOf(4, 0.04296875, 0.95703125, 4.828125, 1.171875), momentOf(2, 0, 1, 5, 1),
		}},
		// Lengths of 2 and 7.5.
		{"a-b", "01", tuneOf(8, 0, 4, accentOf(2, 16, 4)), 2, []impl.Frame{
			momentOf(17, 1, 0, 1, 5), momentOf(24, 1, 0, 1, 5), momentOf(17, 0, 1, 5, 1), momentOf(8, 0, 1, 5, 1), momentOf(toldNumber("41179436"), 0, 1, 5, 1),
		}},
		// Lengths of 4 and 3: the way back takes the ramp of a.
		{"b-a", "00", tuneOf(8, 0.5, 0, accentOf(4.5, -64, 0.5)), 1.125, []impl.Frame{
			momentOf(8, 0, 1, 5, 1), momentOf(toldNumber("40eb6db7"), 0, 1, 5, 1), momentOf(toldNumber("40d6db6e"), 0, 1, 5, 1), momentOf(toldNumber("40c24924"), 0, 1, 5, 1),
			momentOf(0, 0.5, 0.5, 3, 3), momentOf(toldNumber("40992492"), 1, 0, 1, 5), momentOf(toldNumber("40849249"), 1, 0, 1, 5),
		}},
		// One name, and steps that are as long as it, or longer.
		{"a", "0", tuneOf(8, 1, 0), 3, []impl.Frame{momentOf(8, 1, 0, 1, 5)}}, {"a", "0", tuneOf(8, 1, 0), 2.25, []impl.Frame{momentOf(8, 1, 0, 1, 5), momentOf(2, 1, 0, 1, 5)}}, {"a", "1", tuneOf(8, 1, 0), 3, []impl.Frame{momentOf(8, 1, 0, 1, 5), momentOf(toldNumber("3fcccccc"), 1, 0, 1, 5)}},
		{"a", "0", tuneOf(8, 1, 0), 100, []impl.Frame{momentOf(8, 1, 0, 1, 5)}}, {"a", "0", tuneOf(8, 1, 0), most, []impl.Frame{momentOf(8, 1, 0, 1, 5)}}, {"a-b", "11", tuneOf(8, 1, 0, accentOf(0, -9, 1)), most, []impl.Frame{momentOf(0, 1, 0, 1, 5)}},
	} {
		got, ok := impl.SpeakFrames(rampTargets(1, 2), toldNames(c.names), toldStress(c.stress), c.tune, c.step)
		wantMoments(t, fmt.Sprint("SpeakFrames ", c), got, ok, momentsText(c.want))
	}
}

// longTarget returns the name a and its only sound, which is so long where it is the last one.
func longTarget(long float32) ([]impl.Sound, []string) {
	return []impl.Sound{targetOf("a", []float32{2}, long/1.5, 0, 1, 0)}, []string{"a"}
}

func TestSpeakFramesAtTheirLimits(t *testing.T) {
	calm := []bool{false}
	tune := tuneOf(64, 1, 0)
	for _, c := range []struct {
		long, step float32
		count      int // or 0 if it fails
	}{
		{3, 3. / 64, 64}, {3, oneAbove(3. / 64), 64}, {3, oneBelow(3. / 64), 0}, {3, 3. / 63, 63}, {3, 3. / 65, 0}, {3, 3. / 1024, 0}, {3, least, 0}, {3, normal, 0}, {3, oneBelow(3), 2}, {3, oneAbove(3), 1},
		{0x60p-149, least, 0}, {0x3fp-149, least, 63}, {0x42p-149, least, 0}, {0x3cp-149, least, 60}, {0x3cp-149, 2 * least, 30}, {3 * least, least, 3}, {3 * least, 3 * least, 1}, {0x1.8p127, 0x1.8p121, 64}, {0x1.8p127, 0x1.8p122, 32}, {0x1.8p127, 0x1p127, 2}, {0x1.8p127, 0x1.4p121, 0},
	} {
		list, names := longTarget(c.long)
		got, ok := impl.SpeakFrames(list, names, calm, tune, c.step)
		what := fmt.Sprint("SpeakFrames of something that is long ", c.long, " in steps of ", c.step)
		if c.count == 0 {
			wantNoList(t, what, got, ok)
			continue
		}
		if !ok || len(got) != c.count {
			t.Errorf("%s: got %d frames %v, want %d", what, len(got), ok, c.count)
		}
		for k, f := range got {
			want, _ := impl.PitchAt(tune, float32(k)*c.step, c.long)
			wantMoment(t, fmt.Sprint(what, ": ", k), f, true, momentText(momentOf(want, 1, 0, 2)))
		}
	}
}

// Of 24 sounds, which are 2 long, six are stressed and 2.5 long, and the last one is 3 long: 52 together.
func TestSpeakFramesOfManyNames(t *testing.T) {
	list := plainTargets(someNames(16)...)
	for k := range list {
		list[k].Areas, list[k].Ramp = []float32{float32(k + 1), 1}, 0
	}
	names, stress := []string{}, []bool{}
	for k := range 24 {
		names, stress = append(names, list[7*k%16].Name), append(stress, k%4 == 0)
	}
	got, ok := impl.SpeakFrames(list, names, stress, tuneOf(100, 0, 0), 52./64)
	if !ok || len(got) != 64 {
		t.Fatalf("SpeakFrames of 24 names: got %d frames %v", len(got), ok)
	}
	lengths, _ := impl.LengthsOf(list, names, stress)
	for k, f := range got {
		at, _ := soundAround(lengths, float64(k)*52/64)
		wantMoment(t, fmt.Sprint("SpeakFrames of 24 names: ", k), f, true, momentText(momentOf(100, 0.5, 0.25, float32(7*at%16+1), 1)))
	}
	// Of the first 16 of them, not stressed, each one has two frames, and the last one has three.
	want := []impl.Frame{}
	for k := range 16 {
		for range 2 + k/15 {
			want = append(want, momentOf(100, 0.5, 0.25, float32(7*k%16+1), 1))
		}
	}
	got, ok = impl.SpeakFrames(list, names[:16], make([]bool, 16), tuneOf(100, 0, 0), 1)
	wantMoments(t, "SpeakFrames of 16 names", got, ok, momentsText(want))
}

func TestSpeakFramesThatFail(t *testing.T) {
	list, calm := plainTargets("a", "ab", "b"), []bool{false, false}
	names, tune := []string{"a", "b"}, tuneOf(100, 0.5, 40)
	for _, names := range badNameLists() {
		got, ok := impl.SpeakFrames(list, names, make([]bool, len(names)), tune, 1)
		wantNoList(t, fmt.Sprintf("SpeakFrames %q", names), got, ok)
	}
	for _, counts := range [][2]int{{1, 0}, {1, 2}, {2, 1}, {2, 3}, {24, 23}, {24, 25}, {0, 1}, {25, 24}} {
		got, ok := impl.SpeakFrames(list, repeat("a", counts[0]), make([]bool, counts[1]), tune, 1)
		wantNoList(t, fmt.Sprint("SpeakFrames with as many names and stresses ", counts), got, ok)
	}
	for _, step := range notPositive() {
		got, ok := impl.SpeakFrames(list, names, calm, tune, step)
		wantNoList(t, fmt.Sprint("SpeakFrames in steps of ", step), got, ok)
	}
	for _, tune := range badTunes() {
		for _, step := range []float32{1, 100} {
			got, ok := impl.SpeakFrames(list, names, calm, tune, step)
			wantNoList(t, fmt.Sprint("SpeakFrames with ", tune), got, ok)
		}
	}
	got, ok := impl.SpeakFrames(nil, names, calm, tune, 1)
	wantNoList(t, "SpeakFrames of no sounds", got, ok)
	for _, list := range badTargetLists() {
		for _, s := range list {
			got, ok := impl.SpeakFrames(list, []string{s.Name}, []bool{false}, tune, 1)
			wantNoList(t, fmt.Sprint("SpeakFrames ", s.Name, " in ", list), got, ok)
		}
	}
}

func TestSpeakFramesOfWhatIsNotFinite(t *testing.T) {
	tune := tuneOf(100, 0, 0)
	// Lengths that are finite, and whose sum is not.
	for _, c := range []struct {
		long  float32
		count int
		ok    bool
	}{{0x1p126, 2, true}, {0x1.8p126, 2, true}, {0x1.ap126, 2, false}, {0x1p127, 1, true}, {0x1p127, 2, false}, {0x1p123, 24, true}, {0x1.6p123, 24, false}} {
		list := []impl.Sound{targetOf("a", []float32{2}, c.long, 0, 0, 0)}
		got, ok := impl.SpeakFrames(list, repeat("a", c.count), make([]bool, c.count), tune, 0x1p127)
		what := fmt.Sprint("SpeakFrames of ", c.count, " that are long ", c.long)
		if c.ok {
			wantBool(t, what, ok && len(got) > 0, true)
		} else {
			wantNoList(t, what, got, ok)
		}
	}
	list := []impl.Sound{targetOf("a", []float32{1}, 1, 0, 0, 0), targetOf("b", []float32{0x1p-30}, 2, 1, 0, 0)}
	names, calm := []string{"a", "b"}, []bool{false, false}
	// An area that is rounded to nothing at the end of a ramp, and pitches that are infinite, if a time falls there.
	for _, c := range []struct {
		tune impl.Tune
		step float32
		ok   bool
	}{
		{tune, 0.5, true}, {tune, 2 - 0x1p-23, false}, {tune, 1 - 0x1p-24, false}, {tune, 2, true}, {tuneOf(most, 0, 0, accentOf(0, most, 1)), 0.5, false}, {tuneOf(most, 0, 0, accentOf(0, most, 1)), 5, false}, {tuneOf(most, 0, 0, accentOf(2, most, 0.25)), 1, false},
		{tuneOf(most, 0, 0, accentOf(2, most, 0.25)), 1.25, true}, {tuneOf(most, 0, 0, accentOf(2, most, 0.25)), 0.5, false}, {tuneOf(most, 0, most), 1, true}, {tuneOf(most, 0, most), 1.25, false}, {tuneOf(most, 0, most), 1.5, true}, {tuneOf(most, 0, most), 0.9, false},
	} {
		got, ok := impl.SpeakFrames(list, names, calm, c.tune, c.step)
		what := fmt.Sprint("SpeakFrames with ", c.tune, " in steps of ", c.step)
		if c.ok {
			wantBool(t, what, ok && len(got) > 1, true)
		} else {
			wantNoList(t, what, got, ok)
		}
	}
}
