package tests

import (
	"fmt"
	"math"
	"slices"
	"testing"

	"loop.example/g01279/impl"
)

func TestValidSound(t *testing.T) {
	for _, s := range goodTargets() {
		wantBool(t, fmt.Sprint("ValidSound ", s), impl.ValidSound(s), true)
	}
	for _, s := range badTargets() {
		wantBool(t, fmt.Sprintf("ValidSound %q %v", s.Name, s), impl.ValidSound(s), false)
	}
	// A name has letters only, wherever they are.
	for n := range 256 {
		letter := n >= 'a' && n <= 'z'
		for _, name := range []string{string([]byte{byte(n)}), string([]byte{byte(n), 'b', 'c'}), string([]byte{'a', byte(n), 'c'}), string([]byte{'a', 'b', 'c', byte(n)})} {
			wantBool(t, fmt.Sprintf("ValidSound with the name %q", name), impl.ValidSound(plainTarget(name)), letter)
		}
	}
}

func TestAreSounds(t *testing.T) {
	lists := [][]impl.Sound{nil, {}, plainTargets("a"), plainTargets("a", "b"), plainTargets("a", "aa", "ab", "b"), plainTargets("z", "zz", "zzz", "zzzz"), plainTargets(someNames(15)...), plainTargets(someNames(16)...)}
	for _, s := range goodTargets() {
		lists = append(lists, []impl.Sound{s})
	}
	for _, list := range lists {
		wantBool(t, fmt.Sprint("AreSounds ", list), impl.AreSounds(list), true)
	}
	for _, list := range badTargetLists() {
		wantBool(t, fmt.Sprint("AreSounds ", list), impl.AreSounds(list), false)
	}
}

func TestSameSounds(t *testing.T) {
	odd := []impl.Sound{targetOf("", nil, nan, inf, -inf, minus0), targetOf("too long\xff", []float32{nan, 0, -1}, -1, least, 7, nan), {}}
	for _, list := range [][]impl.Sound{nil, {}, odd, plainTargets("a", "b"), goodTargets(), badTargets()} {
		again := toldTargets(targetsText(list))
		for k := range again {
			again[k].Name = list[k].Name
		}
		wantBool(t, fmt.Sprint("SameSounds of the same ", list), impl.SameSounds(list, again), true)
		for k := range list {
			less := append(slices.Clone(list[:k]), list[k+1:]...)
			wantBool(t, fmt.Sprint("SameSounds of one less of ", list), impl.SameSounds(list, less), false)
			wantBool(t, fmt.Sprint("SameSounds of one more than ", less), impl.SameSounds(less, list), false)
		}
	}
	// All not-a-numbers are one value.
	for _, bits := range otherNN {
		x := math.Float32frombits(bits)
		a, b := []impl.Sound{targetOf("a", []float32{x, 1}, x, x, x, x)}, []impl.Sound{targetOf("a", []float32{nan, 1}, nan, nan, nan, nan)}
		wantBool(t, "SameSounds of not-a-numbers", impl.SameSounds(a, b), true)
	}
	wantBool(t, "SameSounds of nil and no sounds", impl.SameSounds(nil, []impl.Sound{}), true)
	wantBool(t, "SameSounds of nil and no areas", impl.SameSounds([]impl.Sound{{Areas: nil}}, []impl.Sound{{Areas: []float32{}}}), true)
}

func TestSameSoundsThatDiffer(t *testing.T) {
	for _, a := range []impl.Sound{plainTarget("a"), targetOf("b", []float32{1, 2, 3}, 0, 0, 0, 0), targetOf("c", []float32{0}, nan, minus0, 1, inf), targetOf("", nil, 1, 2, 3, 4)} {
		others := []impl.Sound{}
		for _, name := range []string{a.Name + "a", a.Name + "\x00", "q" + a.Name, "A"} {
			b := a
			b.Name = name
			others = append(others, b)
		}
		for _, areas := range append(changedNumbers(a.Areas), append(slices.Clone(a.Areas), 1), append([]float32{1}, a.Areas...)) {
			b := a
			b.Areas = areas
			others = append(others, b)
		}
		for _, n := range changedNumbers([]float32{a.Long, a.Ramp, a.Voice, a.Noise}) {
			others = append(others, targetOf(a.Name, a.Areas, n[0], n[1], n[2], n[3]))
		}
		for _, b := range others {
			for _, lists := range [][2][]impl.Sound{{{a}, {b}}, {{b}, {a}}, {{a, a, a}, {a, b, a}}, {{a, a, a}, {a, a, b}}, {{a, b}, {b, a}}} {
				wantBool(t, fmt.Sprint("SameSounds ", lists), impl.SameSounds(lists[0], lists[1]), false)
			}
		}
	}
}

func TestFindSound(t *testing.T) {
	lists := [][]string{{"a"}, {"a", "b"}, {"a", "aa", "ab", "b", "zz"}, someNames(16)}
	for _, names := range lists {
		list := plainTargets(names...)
		for k, name := range names {
			got, ok := impl.FindSound(list, name)
			if !ok || got != int64(k) {
				t.Errorf("FindSound of %q in %v: got %d %v", name, names, got, ok)
			}
		}
		for _, name := range []string{"", "c", "aaa", "A", "a ", "zzz", "aq", "b\x00", "abcde", "\xff"} {
			got, ok := impl.FindSound(list, name)
			wantFailed(t, fmt.Sprintf("FindSound of %q in %v", name, names), got, ok)
		}
	}
	got, ok := impl.FindSound(nil, "a")
	wantFailed(t, "FindSound in no sounds", got, ok)
	for _, list := range badTargetLists() {
		for _, s := range list {
			got, ok := impl.FindSound(list, s.Name)
			wantFailed(t, fmt.Sprint("FindSound in ", list), got, ok)
		}
	}
}

func TestAddSound(t *testing.T) {
	names := []string{"b", "bb", "c", "d"}
	s := targetOf("a", []float32{2, 5}, 7, 0, 1, 0)
	for _, name := range []string{"a", "ab", "azzz", "ba", "bab", "bbb", "bz", "ca", "cz", "da", "e", "zzzz"} {
		s.Name = name
		for count := range len(names) + 1 {
			before := plainTargets(names[:count]...)
			want := append(slices.Clone(before), s)
			slices.SortFunc(want, func(a, b impl.Sound) int {
				return slices.Compare([]byte(a.Name), []byte(b.Name))
			})
			got, ok := impl.AddSound(before, s)
			wantTargets(t, fmt.Sprint("AddSound ", name, " to ", before), got, ok, targetsText(want))
		}
	}
	for _, s := range goodTargets() {
		got, ok := impl.AddSound(nil, s)
		wantTargets(t, fmt.Sprint("AddSound to no sounds ", s), got, ok, targetText(s))
	}
}

func TestAddSoundAtItsLimits(t *testing.T) {
	names := someNames(17)
	for k, name := range names[:16] {
		others := append(slices.Clone(names[:k]), names[k+1:16]...)
		got, ok := impl.AddSound(plainTargets(others...), plainTarget(name))
		wantTargets(t, fmt.Sprint("AddSound of the 16th one ", name), got, ok, targetsText(plainTargets(names[:16]...)))
		got, ok = impl.AddSound(plainTargets(names[:16]...), plainTarget(name))
		wantNoList(t, fmt.Sprint("AddSound of ", name, ", which is there"), got, ok)
		others = append(slices.Clone(names[:k]), names[k+1:]...)
		got, ok = impl.AddSound(plainTargets(others...), plainTarget(name))
		wantNoList(t, fmt.Sprint("AddSound of the 17th one ", name), got, ok)
	}
	// A name that is there is there also for another sound.
	got, ok := impl.AddSound(plainTargets("a", "b"), targetOf("b", []float32{5, 6}, 1, 2, 0, 1))
	wantNoList(t, "AddSound of another b", got, ok)
	for _, areas := range [][]float32{{1}, {1, 2, 3}, repeat(float32(1), 16)} {
		for _, name := range []string{"a", "c", "z"} {
			got, ok := impl.AddSound(plainTargets("b", "d"), targetOf(name, areas, 1, 1, 1, 1))
			wantNoList(t, fmt.Sprint("AddSound of ", name, " with the areas ", areas), got, ok)
		}
	}
	for _, s := range badTargets() {
		for _, list := range [][]impl.Sound{nil, plainTargets("b"), plainTargets("aa", "c")} {
			got, ok := impl.AddSound(list, s)
			wantNoList(t, fmt.Sprint("AddSound of ", s), got, ok)
		}
	}
	for _, list := range badTargetLists() {
		for _, name := range []string{"aaaa", "n", "zzzz"} {
			got, ok := impl.AddSound(list, plainTarget(name))
			wantNoList(t, fmt.Sprint("AddSound of ", name, " to ", list), got, ok)
		}
	}
}

func TestDropSound(t *testing.T) {
	for _, names := range [][]string{{"a"}, {"a", "b"}, {"a", "aa", "ab", "b", "zz"}, someNames(16)} {
		list := plainTargets(names...)
		for k := range list {
			list[k].Long = float32(k + 1)
		}
		for k, name := range names {
			want := append(slices.Clone(list[:k]), list[k+1:]...)
			got, ok := impl.DropSound(list, name)
			wantTargets(t, fmt.Sprint("DropSound ", name, " of ", names), got, ok, targetsText(want))
		}
		for _, name := range []string{"", "c", "aaa", "A", "a ", "zzz", "aq", "b\x00", "abcde", "\xff"} {
			got, ok := impl.DropSound(list, name)
			wantNoList(t, fmt.Sprintf("DropSound %q of %v", name, names), got, ok)
		}
	}
	got, ok := impl.DropSound(nil, "a")
	wantNoList(t, "DropSound of no sounds", got, ok)
	for _, list := range badTargetLists() {
		for _, s := range list {
			got, ok := impl.DropSound(list, s.Name)
			wantNoList(t, fmt.Sprint("DropSound ", s.Name, " of ", list), got, ok)
		}
	}
}

func TestStretchSounds(t *testing.T) {
	cases := [][3]string{
		{"a:4090c24f,3fc396ce:405ecabb,402f3fe8,3e2fc71c,3f70486f/ab:3fce8378,3eb0c828:3f194453,400aa031,3d1c1b3f,3eeb7557", "403e5188", "a:4090c24f,3fc396ce:4125a16b,4102493f,3e2fc71c,3f70486f/ab:3fce8378,3eb0c828:3fe3e30b,40ce1e15,3d1c1b3f,3eeb7557"},
		{"ab:3f36d1a7,3fdd50a0:3f4eaba6,40336990,3d879a5c,3eca3104", "3fdc66ef", "ab:3f36d1a7,3fdd50a0:3fb1ee9c,409a76db,3d879a5c,3eca3104"},
		{"ab:3f1d761e,3ecfe5cb:3fd0b401,400d68dd,3c14ba6d,3eb7eaa0", "4019a9eb", "ab:3f1d761e,3ecfe5cb:407a8c36,40a9c310,3c14ba6d,3eb7eaa0"},
		{"ab:409fbe63,3fe2eb37:3f8bccb6,3f830520,3f36f293,3f087c84", "3ffb8967", "ab:409fbe63,3fe2eb37:40095cbf,4000bc59,3f36f293,3f087c84"},
		{"b:3fa15a00,4071a997:405ce3df,3ff0ca62,3f43eeee,3f56d631/z:3f5e4193,404edfa5:3fe5907d,403b4a15,3f6042f7,3e4cad8b", "3eb0f93e", "b:3fa15a00,4071a997:3f98b3b8,3f267593,3f43eeee,3f56d631/z:3f5e4193,404edfa5:3f1eb2d7,3f817947,3f6042f7,3e4cad8b"},
	}
	for _, c := range cases {
		got, ok := impl.StretchSounds(toldTargets(c[0]), toldNumber(c[1]))
		wantTargets(t, fmt.Sprint("StretchSounds ", c[0], " by ", c[1]), got, ok, c[2])
	}
	for _, c := range []struct {
		long, ramp, by   float32
		wantLong, wanted float32
	}{
		{2, 1, 1, 2, 1}, {2, 1, 2, 4, 2}, {2, 0, 3, 6, 0}, {2, minus0, 3, 6, minus0}, {3, least, 0.5, 1.5, 0}, {3, 3 * least, 0.5, 1.5, 2 * least},
		{2, 0, least, 2 * least, 0}, {2, 1, least, 2 * least, least}, {1, 1, most, most, most}, {0.5, 1, most, most / 2, most}, {most, 0, 1, most, 0}, {most, most, 0.5, most / 2, most / 2}, {least, 0, most, least * most, 0},
		// Half of the least number is nothing, and a little more is the least number.
		{0.75, 0, least, least, 0}, {0.5 + 0x1p-24, 0.5, least, least, 0},
	} {
		s, want := targetOf("a", []float32{1, 3}, c.long, c.ramp, 0.5, 0.25), targetOf("a", []float32{1, 3}, c.wantLong, c.wanted, 0.5, 0.25)
		got, ok := impl.StretchSounds([]impl.Sound{s}, c.by)
		wantTargets(t, fmt.Sprint("StretchSounds ", s, " by ", c.by), got, ok, targetText(want))
	}
}

func TestStretchSoundsThatFail(t *testing.T) {
	for _, c := range []struct{ long, ramp, by float32 }{
		{2, 1, 0}, {2, 1, minus0}, {2, 1, -1}, {2, 1, -least}, {2, 0, -2}, {2, 1, most}, {0.5, 2, most}, {most, 0, 2}, {most, 0, aboveOne}, {1, most, 2}, {1, most, aboveOne}, {least, 0, 0.5}, {0.5, 0, least}, {0.25, 1, least},
	} {
		bad := targetOf("b", []float32{1, 3}, c.long, c.ramp, 0, 0)
		for _, list := range [][]impl.Sound{{bad}, {plainTarget("a"), bad}, {bad, plainTarget("c")}} {
			got, ok := impl.StretchSounds(list, c.by)
			wantNoList(t, fmt.Sprint("StretchSounds ", list, " by ", c.by), got, ok)
		}
	}
	for _, by := range badNumbers() {
		for _, list := range [][]impl.Sound{nil, plainTargets("a"), {targetOf("a", []float32{1}, 1, 0, 0, 0)}} {
			got, ok := impl.StretchSounds(list, by)
			wantNoList(t, fmt.Sprint("StretchSounds ", list, " by ", by), got, ok)
		}
	}
	// Without sounds, nothing becomes invalid.
	for _, by := range []float32{0, minus0, -1, 1, most, -most, least} {
		got, ok := impl.StretchSounds(nil, by)
		wantTargets(t, fmt.Sprint("StretchSounds of no sounds by ", by), got, ok, "")
	}
	for _, list := range badTargetLists() {
		got, ok := impl.StretchSounds(list, 1)
		wantNoList(t, fmt.Sprint("StretchSounds ", list), got, ok)
	}
	// What would be valid behind it is not valid before.
	for _, s := range []impl.Sound{targetOf("a", []float32{1}, -2, -1, 0, 0), targetOf("a", []float32{1}, -2, 0, 0, 0), targetOf("a", []float32{1}, -2, minus0, 0, 0)} {
		got, ok := impl.StretchSounds([]impl.Sound{s}, -1)
		wantNoList(t, fmt.Sprint("StretchSounds backwards ", s), got, ok)
	}
}

func TestRampAt(t *testing.T) {
	cases := [][2]string{
		{"3f3c337c", "3f53a4b3"},
		{"3d670437", "3c167972"},
		{"3f2a90a9", "3f3d7e80"},
		{"3f28eec5", "3f3b4e5c"},
		{"3e0894be", "3d472ae4"},
		{"3ef3079a", "3eec8fab"},
		{"3e278417", "3d927dcf"},
		{"3f651978", "3f781d2b"},
		{"3f2796cd", "3f397d74"},
		{"3c9ab32b", "3a8a7623"},
		{"3ed37e89", "3ebde9fb"},
		{"3dc70513", "3cd90c3d"},
		{"3d8e0609", "3c617283"},
		{"3e5b81f9", "3df1faaa"},
	}
	for _, c := range cases {
		got, ok := impl.RampAt(toldNumber(c[0]))
		wantSum(t, "RampAt "+c[0], got, ok, toldNumber(c[1]))
	}
	for _, c := range [][2]float32{
		{0, 0}, {minus0, 0}, {1, 1}, {0.5, 0.5}, {0.25, 0.15625}, {0.75, 0.84375}, {belowOne, 1}, {aboveOne, 1}, {2, 1}, {1.5, 1}, {3, 1}, {1000, 1}, {most, 1}, {least, 0}, {-least, 0}, {-0.5, 0}, {-1, 0}, {-2, 0}, {-most, 0},
		{0x1p-70, 0x3p-140}, {0x1p-74, 0x3p-148}, {0x1p-75, 0}, {0x1p-60, 0x3p-120},
	} {
		got, ok := impl.RampAt(c[0])
		wantSum(t, fmt.Sprint("RampAt ", c[0]), got, ok, c[1])
	}
	for _, x := range badNumbers() {
		got, ok := impl.RampAt(x)
		wantFailed(t, fmt.Sprint("RampAt ", x), got, ok)
	}
}

func TestLengthsOf(t *testing.T) {
	cases := [][4]string{
		{"zoo:3f9d9400:40313012,3faafa38,3f23dfc2,3f3bfaae", "zoo-zoo", "11", "405d7c16,40a61d10"},
		{"b:3ffa58e0:407c835c,40213c77,3f4997d7,3ea61655", "b-b-b", "011", "407c835c,409dd21a,40ecbb27"},
		{"b:3ea0b522:3f323cad,3e758473,3e2ca26e,3ab621a6/z:3ef4cab9:3fc5f02a,3e2cfc71,3f6fa96a,3f62c066/zoo:4078012d:3f15211e,400c1497,3eb7d198,3ee35531", "b-z", "00", "3f323cad,40147420"},
		{"z:40002b68:3ffb1a03,3eb477c4,3f1a8527,3f4c174b/zoo:400b4cb6:3ffbe522,402f89c6,3eb6d073,3d94fc1d", "zoo-z-zoo", "000", "3ffbe522,3ffb1a03,403cebda"},
		{"a:3fa8d2b2:4016db1f,3fe844b2,3f1eb0b7,3f12b63f", "a-a-a-a", "1111", "403c91e7,403c91e7,403c91e7,408d6d6d"},
		{"z:3ece7914:3f6c5e12,3fa9ad5d,3f6aa89d,3f1e882b/zoo:408593c3:401bdda2,402b780e,3f20b35b,3f3acd4d", "z", "1", "3fdd9830"},
		{"ab:406f39d3:3fcc7437,3fa0edf5,3eb19809,3e1651ea/b:4084df2b:4056ea03,4002599b,3c3c6cd2,3ed0ea79/z:40931acb:402328dc,40230571,3d1b7ce2,3f4f9d65", "ab", "1", "403facf4"},
		{"a:4046ea08:407f9b06,3ec8b2bd,3f44a188,3f02ceb2/b:3fa7bd5a:3f1579eb,3fae810e,3f562de6,3f537b2d", "a-a", "11", "409fc0e4,40efa156"},
		{"a:3f388280:3ff37134,3f25765e,3f6cdded,3e0fd799/zoo:407a4c57:40244f87,3f43e83d,3dc506d0,3e58adc2", "a", "1", "40643a20"},
		{"a:40563886:3fda109b,400d776e,3e69f688,3ea67981/ab:40958b7f:403ea539,3f20eab4,3f472ee0,3f52b0c5", "ab-a", "01", "403ea539,404c6f92"},
	}
	for _, c := range cases {
		got, ok := impl.LengthsOf(toldTargets(c[0]), toldNames(c[1]), toldStress(c[2]))
		wantNumbers(t, fmt.Sprint("LengthsOf ", c[1], " with ", c[2], " of ", c[0]), got, ok, c[3])
	}
	list := []impl.Sound{targetOf("a", []float32{1}, 2, 0, 0, 0), targetOf("ab", []float32{1}, 16, 0, 0, 0), targetOf("b", []float32{1}, 4, 0, 0, 0)}
	for _, c := range []struct {
		names, stress string
		want          []float32
	}{
		{"a", "0", []float32{3}}, {"a", "1", []float32{3.75}}, {"b", "0", []float32{6}}, {"a-b", "00", []float32{2, 6}}, {"a-b", "10", []float32{2.5, 6}}, {"a-b", "01", []float32{2, 7.5}}, {"a-b", "11", []float32{2.5, 7.5}},
		{"b-a", "00", []float32{4, 3}}, {"a-a-a", "010", []float32{2, 2.5, 3}}, {"ab-a-b-ab", "1011", []float32{20, 2, 5, 30}}, {"ab-ab", "00", []float32{16, 24}},
	} {
		got, ok := impl.LengthsOf(list, toldNames(c.names), toldStress(c.stress))
		wantNumbers(t, "LengthsOf "+c.names+" with "+c.stress, got, ok, bitsText(c.want))
	}
	for _, count := range []int{1, 2, 23, 24} {
		want := repeat(float32(4), count)
		want[count-1] = 6
		got, ok := impl.LengthsOf(list, repeat("b", count), make([]bool, count))
		wantNumbers(t, fmt.Sprint("LengthsOf ", count, " names"), got, ok, bitsText(want))
	}
}

func TestLengthsOfThatAreNotFinite(t *testing.T) {
	greatest, half := math.Float32frombits(0x7f4ccccc), math.Float32frombits(0x7f2aaaaa)
	for _, c := range []struct {
		long   float32
		names  string
		stress string
		want   string // the lengths, or nothing if it fails
	}{
		{greatest, "a-b", "10", "7f7fffff,40400000"}, {oneAbove(greatest), "a-b", "10", ""}, {most, "a-b", "00", "7f7fffff,40400000"}, {most, "a-b", "10", ""}, {most, "b-a", "00", ""},
		{half, "b-a", "00", "40000000,7f7fffff"}, {oneAbove(half), "b-a", "00", ""}, {half, "b-a", "01", ""}, {half, "a", "0", "7f7fffff"}, {half, "a", "1", ""}, {oneAbove(half), "a", "0", ""},
		{least, "a-b", "10", "00000001,40400000"}, {least, "b-a", "00", "40000000,00000002"}, {least, "b-a", "01", "40000000,00000002"}, {2 * least, "a-b", "10", "00000002,40400000"}, {2 * least, "b-a", "01", "40000000,00000003"},
	} {
		list := []impl.Sound{targetOf("a", []float32{1}, c.long, 0, 0, 0), targetOf("b", []float32{1}, 2, 0, 0, 0)}
		got, ok := impl.LengthsOf(list, toldNames(c.names), toldStress(c.stress))
		what := fmt.Sprint("LengthsOf ", c.names, " with ", c.stress, " where a is ", c.long, " long")
		if c.want == "" {
			wantNoList(t, what, got, ok)
		} else {
			wantNumbers(t, what, got, ok, c.want)
		}
	}
}

func TestLengthsOfThatFail(t *testing.T) {
	list := plainTargets("a", "ab", "b")
	for _, names := range badNameLists() {
		got, ok := impl.LengthsOf(list, names, make([]bool, len(names)))
		wantNoList(t, fmt.Sprintf("LengthsOf %q", names), got, ok)
		got, ok = impl.LengthsOf(list, names, nil)
		wantNoList(t, fmt.Sprintf("LengthsOf %q without stresses", names), got, ok)
	}
	for _, counts := range [][2]int{{1, 0}, {1, 2}, {2, 1}, {2, 3}, {24, 23}, {24, 25}, {0, 1}, {25, 24}} {
		got, ok := impl.LengthsOf(list, repeat("a", counts[0]), make([]bool, counts[1]))
		wantNoList(t, fmt.Sprint("LengthsOf with as many names and stresses ", counts), got, ok)
	}
	got, ok := impl.LengthsOf(nil, []string{"a"}, []bool{false})
	wantNoList(t, "LengthsOf no sounds", got, ok)
	got, ok = impl.LengthsOf(nil, nil, nil)
	wantNoList(t, "LengthsOf nothing", got, ok)
	for _, list := range badTargetLists() {
		for _, s := range list {
			got, ok := impl.LengthsOf(list, []string{s.Name}, []bool{false})
			wantNoList(t, fmt.Sprint("LengthsOf ", s.Name, " in ", list), got, ok)
		}
	}
}
