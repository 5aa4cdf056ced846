package tests

import (
	"math"
	"slices"
	"strings"
	"testing"

	"loop.example/g01279/impl"
)

// targetOf returns a sound, whether it is valid or not.
func targetOf(name string, areas []float32, long, ramp, voice, noise float32) impl.Sound {
	return impl.Sound{Name: name, Areas: areas, Long: long, Ramp: ramp, Voice: voice, Noise: noise}
}

// plainTarget returns a valid sound with a name.
func plainTarget(name string) impl.Sound {
	return targetOf(name, []float32{1, 3}, 2, 1, 0.5, 0.25)
}

// plainTargets returns sounds with these names.
func plainTargets(names ...string) []impl.Sound {
	list := []impl.Sound{}
	for _, name := range names {
		list = append(list, plainTarget(name))
	}
	return list
}

// someNames returns as many names in ascending order.
func someNames(count int) []string {
	names := []string{}
	for k := range count {
		names = append(names, string([]byte{byte('a' + k/26), byte('a' + k%26)}))
	}
	return names
}

// toldTarget returns the sound told by its name, its areas, and its four numbers, with colons between them.
func toldTarget(s string) impl.Sound {
	parts := strings.Split(s, ":")
	n := told(parts[2])
	return targetOf(parts[0], told(parts[1]), n[0], n[1], n[2], n[3])
}

// targetText tells a sound as toldTarget reads it.
func targetText(s impl.Sound) string {
	return s.Name + ":" + bitsText(s.Areas) + ":" + bitsText([]float32{s.Long, s.Ramp, s.Voice, s.Noise})
}

// toldTargets returns the sounds told with slashes between them.
func toldTargets(s string) []impl.Sound {
	list := []impl.Sound{}
	if s == "" {
		return list
	}
	for _, text := range strings.Split(s, "/") {
		list = append(list, toldTarget(text))
	}
	return list
}

// targetsText tells sounds as toldTargets reads them.
func targetsText(list []impl.Sound) string {
	texts := []string{}
	for _, s := range list {
		texts = append(texts, targetText(s))
	}
	return strings.Join(texts, "/")
}

func momentOf(pitch, voice, noise float32, areas ...float32) impl.Frame {
	return impl.Frame{Areas: areas, Pitch: pitch, Voice: voice, Noise: noise}
}

// toldMoment returns the frame told by its areas, a semicolon, and its three numbers.
func toldMoment(s string) impl.Frame {
	parts := strings.Split(s, ";")
	n := told(parts[1])
	return momentOf(n[0], n[1], n[2], told(parts[0])...)
}

// momentText tells a frame as toldMoment reads it.
func momentText(f impl.Frame) string {
	return bitsText(f.Areas) + ";" + bitsText([]float32{f.Pitch, f.Voice, f.Noise})
}

// toldMoments returns the frames told with slashes between them.
func toldMoments(s string) []impl.Frame {
	list := []impl.Frame{}
	if s == "" {
		return list
	}
	for _, text := range strings.Split(s, "/") {
		list = append(list, toldMoment(text))
	}
	return list
}

// momentsText tells frames as toldMoments reads them.
func momentsText(list []impl.Frame) string {
	texts := []string{}
	for _, f := range list {
		texts = append(texts, momentText(f))
	}
	return strings.Join(texts, "/")
}

func tuneOf(base, fall, rise float32, accents ...impl.Accent) impl.Tune {
	return impl.Tune{Base: base, Fall: fall, Rise: rise, Accents: accents}
}

func accentOf(at, size, wide float32) impl.Accent {
	return impl.Accent{At: at, Size: size, Wide: wide}
}

// toldAccent returns the accent told by the bits of its three numbers.
func toldAccent(s string) impl.Accent {
	n := told(s)
	return accentOf(n[0], n[1], n[2])
}

func accentText(a impl.Accent) string {
	return bitsText([]float32{a.At, a.Size, a.Wide})
}

// toldTune returns the tune told by its three numbers, and its accents, with semicolons between them.
func toldTune(s string) impl.Tune {
	parts := strings.Split(s, ";")
	n := told(parts[0])
	t := tuneOf(n[0], n[1], n[2])
	for _, accent := range parts[1:] {
		t.Accents = append(t.Accents, toldAccent(accent))
	}
	return t
}

// tuneText tells a tune as toldTune reads it.
func tuneText(t impl.Tune) string {
	texts := []string{bitsText([]float32{t.Base, t.Fall, t.Rise})}
	for _, a := range t.Accents {
		texts = append(texts, accentText(a))
	}
	return strings.Join(texts, ";")
}

// toldNames returns names told with dashes between them.
func toldNames(s string) []string {
	if s == "" {
		return nil
	}
	return strings.Split(s, "-")
}

// toldStress returns whether names are stressed, told by a digit 0 or 1 for each.
func toldStress(s string) []bool {
	stress := []bool{}
	for _, digit := range s {
		stress = append(stress, digit == '1')
	}
	return stress
}

func wantTargets(t *testing.T, what string, got []impl.Sound, ok bool, want string) {
	t.Helper()
	if !ok || targetsText(got) != want {
		t.Errorf("%s: got %s (%v) %v, want %s (%v)", what, targetsText(got), got, ok, want, toldTargets(want))
	}
}

func wantMoment(t *testing.T, what string, got impl.Frame, ok bool, want string) {
	t.Helper()
	if !ok || momentText(got) != want {
		t.Errorf("%s: got %s (%v) %v, want %s (%v)", what, momentText(got), got, ok, want, toldMoment(want))
	}
}

func wantNoMoment(t *testing.T, what string, got impl.Frame, ok bool) {
	t.Helper()
	if ok || momentText(got) != momentText(impl.Frame{}) {
		t.Errorf("%s: got %v %v, want it to fail", what, got, ok)
	}
}

func wantMoments(t *testing.T, what string, got []impl.Frame, ok bool, want string) {
	t.Helper()
	if !ok || momentsText(got) != want {
		t.Errorf("%s: got %s (%v) %v, want %s (%v)", what, momentsText(got), got, ok, want, toldMoments(want))
	}
}

func wantTune(t *testing.T, what string, got impl.Tune, ok bool, want string) {
	t.Helper()
	if !ok || tuneText(got) != want {
		t.Errorf("%s: got %s (%v) %v, want %s (%v)", what, tuneText(got), got, ok, want, toldTune(want))
	}
}

func wantNoTune(t *testing.T, what string, got impl.Tune, ok bool) {
	t.Helper()
	if ok || tuneText(got) != tuneText(impl.Tune{}) {
		t.Errorf("%s: got %v %v, want it to fail", what, got, ok)
	}
}

// notPositive are numbers that are not finite and greater than 0.
func notPositive() []float32 {
	return append(badNumbers(), 0, minus0, -least, -1, -most)
}

// belowNothing are numbers that are not finite and at least 0.
func belowNothing() []float32 {
	return append(badNumbers(), -least, -0.5, -1, -most)
}

// badAreas are lists that can be no areas for one reason each.
func badAreas() [][]float32 {
	list := [][]float32{nil, {}, repeat(float32(1), 17), repeat(float32(1), 300)}
	for _, x := range notPositive() {
		list = append(list, []float32{x}, []float32{x, 1, 1}, []float32{1, x, 1}, []float32{1, 1, x}, append(repeat(float32(1), 15), x))
	}
	return list
}

// goodAreas are areas at their limits.
func goodAreas() [][]float32 {
	return [][]float32{{1}, {least}, {most}, {least, most}, {1, 3, 2}, repeat(float32(0.5), 15), repeat(float32(2), 16)}
}

// goodTargets are sounds that are valid, most of them at limits.
func goodTargets() []impl.Sound {
	list := []impl.Sound{}
	for _, name := range []string{"a", "z", "m", "az", "za", "abc", "abcd", "zzzz", "aaaa"} {
		list = append(list, plainTarget(name))
	}
	for _, areas := range goodAreas() {
		list = append(list, targetOf("a", areas, 2, 1, 0, 0))
	}
	for _, long := range []float32{least, normal, 1, most} {
		list = append(list, targetOf("a", []float32{1}, long, 1, 0, 0))
	}
	for _, ramp := range []float32{0, minus0, least, 1, 2, 3, most} {
		list = append(list, targetOf("a", []float32{1}, 2, ramp, 0, 0))
	}
	for _, share := range []float32{0, minus0, least, 0.5, belowOne, 1} {
		list = append(list, targetOf("a", []float32{1}, 2, 1, share, 0), targetOf("a", []float32{1}, 2, 1, 0, share))
	}
	return list
}

// badTargets are sounds that are not valid for one reason each.
func badTargets() []impl.Sound {
	list := []impl.Sound{{}, {Name: "a"}}
	for _, name := range []string{"", "abcde", "abcdefgh", "A", "Z", "`", "{", "a`", "{a", "abc{", "a b", " ", "1", "a1", "-", "a-", ".", "a\x00", "\x00", "\xff", "a\xe4", "ä", "aä", "a\u0161", "\u0161", "\n", "abcd\n", "ａ"} {
		list = append(list, plainTarget(name))
	}
	for _, areas := range badAreas() {
		list = append(list, targetOf("a", areas, 2, 1, 0, 0))
	}
	for _, long := range notPositive() {
		list = append(list, targetOf("a", []float32{1, 3}, long, 1, 0, 0))
	}
	for _, ramp := range belowNothing() {
		list = append(list, targetOf("a", []float32{1, 3}, 2, ramp, 0, 0))
	}
	for _, share := range badShares() {
		list = append(list, targetOf("a", []float32{1, 3}, 2, 1, share, 0), targetOf("a", []float32{1, 3}, 2, 1, 0, share))
	}
	return list
}

// badTargetLists are lists that are no sounds for one reason each.
func badTargetLists() [][]impl.Sound {
	other := targetOf("b", []float32{1}, 2, 1, 0, 0)
	list := [][]impl.Sound{
		plainTargets(someNames(17)...), plainTargets(someNames(40)...),
		plainTargets("a", "a"), plainTargets("b", "a"), plainTargets("a", "b", "b"), plainTargets("a", "c", "b"), plainTargets("b", "a", "c"), plainTargets("aa", "a"), plainTargets("b", "ab"), plainTargets("a", "b", "a"),
		{plainTarget("a"), other}, {other, plainTarget("c")}, {plainTarget("a"), plainTarget("aa"), other}, {plainTarget("a"), other, plainTarget("c")},
	}
	for _, s := range badTargets() {
		list = append(list, []impl.Sound{s})
		if s.Name == "a" && len(s.Areas) == 2 {
			list = append(list, []impl.Sound{s, plainTarget("b")})
			s.Name = "m"
			list = append(list, []impl.Sound{plainTarget("a"), s, plainTarget("z")}, []impl.Sound{plainTarget("a"), plainTarget("b"), s})
		}
	}
	return list
}

// badNameLists are lists that are no names of the sounds with the names a, ab and b.
func badNameLists() [][]string {
	list := [][]string{nil, {}, repeat("a", 25), repeat("a", 300)}
	for _, name := range []string{"", "c", "aa", "abc", "A", "a ", " a", "a\x00", "ba", "\xff"} {
		list = append(list, []string{name}, []string{name, "a"}, []string{"a", name}, []string{"a", name, "b"}, append(repeat("a", 23), name))
	}
	return list
}

// badMoments are frames that are not valid for one reason each.
func badMoments() []impl.Frame {
	list := []impl.Frame{{}}
	for _, areas := range badAreas() {
		list = append(list, momentOf(100, 0, 0, areas...))
	}
	for _, pitch := range belowNothing() {
		list = append(list, momentOf(pitch, 0, 0, 1, 3))
	}
	for _, share := range badShares() {
		list = append(list, momentOf(100, share, 0, 1, 3), momentOf(100, 0, share, 1, 3))
	}
	return list
}

// goodMoments are frames that are valid, most of them at limits.
func goodMoments() []impl.Frame {
	list := []impl.Frame{}
	for _, areas := range goodAreas() {
		list = append(list, momentOf(100, 0, 0, areas...))
	}
	for _, pitch := range []float32{0, minus0, least, 1, 440, most} {
		list = append(list, momentOf(pitch, 0, 0, 1, 3))
	}
	for _, share := range []float32{0, minus0, least, 0.5, belowOne, 1} {
		list = append(list, momentOf(100, share, 0, 1, 3), momentOf(100, 0, share, 1, 3))
	}
	return list
}

// badAccents are accents that no tune has, for one reason each.
func badAccents() []impl.Accent {
	list := []impl.Accent{{}}
	for _, x := range badNumbers() {
		list = append(list, accentOf(x, 1, 1), accentOf(1, x, 1))
	}
	for _, wide := range notPositive() {
		list = append(list, accentOf(1, 1, wide))
	}
	return list
}

// goodAccents are accents at their limits.
func goodAccents() []impl.Accent {
	return []impl.Accent{accentOf(1, 4, 2), accentOf(0, 0, least), accentOf(minus0, minus0, most), accentOf(-most, -most, 1), accentOf(most, most, normal), accentOf(least, -least, 0.5)}
}

// badTunes are tunes that are not valid for one reason each.
func badTunes() []impl.Tune {
	list := []impl.Tune{{}, tuneOf(100, 0.5, 40, repeat(accentOf(1, 4, 2), 9)...), tuneOf(100, 0.5, 40, repeat(accentOf(1, 4, 2), 300)...)}
	for _, base := range notPositive() {
		list = append(list, tuneOf(base, 0.5, 40))
	}
	for _, fall := range badShares() {
		list = append(list, tuneOf(100, fall, 40))
	}
	for _, rise := range badNumbers() {
		list = append(list, tuneOf(100, 0.5, rise))
	}
	for _, a := range badAccents() {
		good := accentOf(1, 4, 2)
		list = append(list, tuneOf(100, 0.5, 40, a), tuneOf(100, 0.5, 40, a, good), tuneOf(100, 0.5, 40, good, a, good), tuneOf(100, 0.5, 40, append(repeat(good, 7), a)...))
	}
	return list
}

// goodTunes are tunes that are valid, most of them at limits.
func goodTunes() []impl.Tune {
	list := []impl.Tune{tuneOf(100, 0.5, 40), tuneOf(100, 0.5, 40, goodAccents()...), tuneOf(100, 0.5, -40, repeat(accentOf(1, 4, 2), 7)...), tuneOf(100, 0.5, -40, repeat(accentOf(1, 4, 2), 8)...)}
	for _, base := range []float32{least, normal, 1, most} {
		list = append(list, tuneOf(base, 0.5, 40))
	}
	for _, fall := range []float32{0, minus0, least, belowOne, 1} {
		list = append(list, tuneOf(100, fall, 40))
	}
	for _, rise := range []float32{0, minus0, least, -least, most, -most} {
		list = append(list, tuneOf(100, 0.5, rise))
	}
	for _, a := range goodAccents() {
		list = append(list, tuneOf(100, 0.5, 40, a))
	}
	return list
}

// changedNumbers returns all lists that differ from one in one number: this is another one, or the same value with another sign.
func changedNumbers(list []float32) [][]float32 {
	changed := [][]float32{}
	for k, x := range list {
		for _, other := range []float32{math.Float32frombits(math.Float32bits(x) ^ 1), -x, x + 1, nan} {
			if bitsOf(other) != bitsOf(x) {
				again := slices.Clone(list)
				again[k] = other
				changed = append(changed, again)
			}
		}
	}
	return changed
}
