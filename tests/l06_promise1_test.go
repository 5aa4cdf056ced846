package tests

import (
	"fmt"
	"math"
	"slices"
	"strings"
	"sync"
	"testing"

	"loop.example/g01279/impl"
)

// speechCall has arguments of all functions of chapter 6.
type speechCall struct {
	list, others []impl.Sound
	s            impl.Sound
	names        []string
	stress       []bool
	lengths      []float32
	f, g         impl.Frame
	frames       []impl.Frame
	tune, other  impl.Tune
	a            impl.Accent
	x, y         float32
	n            int64
}

// speech tells the results of functions in a text, and checks that they are valid, and zero values where a function fails.
type speech struct {
	t    *testing.T
	text string
}

func (r *speech) told(name string, ok, good bool, result, zero string) {
	r.t.Helper()
	r.text += fmt.Sprintln(name, result, ok)
	if !ok && result != zero {
		r.t.Errorf("%s failed, and returned %s", name, result)
	}
	if ok && !good {
		r.t.Errorf("%s: %s is not valid", name, result)
	}
}

func (r *speech) sounds(name string, list []impl.Sound, ok bool) {
	r.t.Helper()
	r.told(name, ok, impl.AreSounds(list), targetsText(list), "")
}

func (r *speech) frame(name string, f impl.Frame, ok bool) {
	r.t.Helper()
	r.told(name, ok, impl.ValidFrame(f), momentText(f), momentText(impl.Frame{}))
}

func (r *speech) tune(name string, tune impl.Tune, ok bool) {
	r.t.Helper()
	r.told(name, ok, impl.ValidTune(tune), tuneText(tune), tuneText(impl.Tune{}))
}

func (r *speech) number(name string, x float32, ok bool) {
	r.t.Helper()
	r.told(name, ok, impl.IsFinite(x), oneText(x), oneText(0))
}

func (r *speech) numbers(name string, list []float32, ok bool) {
	r.t.Helper()
	r.told(name, ok, impl.IsSound(list), bitsText(list), "")
}

// ofSounds calls all functions with sounds and their names.
func (c speechCall) ofSounds(r *speech) {
	r.t.Helper()
	r.text += fmt.Sprint(impl.ValidSound(c.s), impl.AreSounds(c.list), impl.SameSounds(c.list, c.others))
	n, ok := impl.FindSound(c.list, c.s.Name)
	r.told("FindSound", ok, n >= 0 && n < 16, fmt.Sprint(n), "0")
	list, ok := impl.AddSound(c.list, c.s)
	r.sounds("AddSound", list, ok)
	list, ok = impl.DropSound(c.list, c.s.Name)
	r.sounds("DropSound", list, ok)
	list, ok = impl.StretchSounds(c.list, c.x)
	r.sounds("StretchSounds", list, ok)
	x, ok := impl.RampAt(c.x)
	r.number("RampAt", x, ok)
	lengths, ok := impl.LengthsOf(c.list, c.names, c.stress)
	r.numbers("LengthsOf", lengths, ok)
}

// ofFrames calls all functions with frames.
func (c speechCall) ofFrames(r *speech) {
	r.t.Helper()
	r.text += fmt.Sprint(impl.ValidFrame(c.f), impl.SameFrame(c.f, c.g))
	f, ok := impl.FrameOf(c.s, c.x)
	r.frame("FrameOf", f, ok)
	f, ok = impl.MixFrames(c.f, c.g, c.x)
	r.frame("MixFrames", f, ok)
	tube, ok := impl.TubeOfFrame(c.f)
	r.told("TubeOfFrame", ok, impl.ValidTube(tube), tubeText(tube), tubeText(impl.Tube{}))
	f, ok = impl.FrameAt(c.list, c.names, c.lengths, c.x)
	r.frame("FrameAt", f, ok)
	frames, ok := impl.SpeakFrames(c.list, c.names, c.stress, c.tune, c.x)
	r.told("SpeakFrames", ok, len(frames) >= 1 && len(frames) <= 64, momentsText(frames), "")
	for _, f := range frames {
		r.frame("SpeakFrames", f, ok)
	}
	sways, ok := impl.SwaysOf(c.frames)
	r.numbers("SwaysOf", sways, ok)
}

// ofTunes calls all functions with tunes.
func (c speechCall) ofTunes(r *speech) {
	r.t.Helper()
	r.text += fmt.Sprint(impl.ValidTune(c.tune), impl.SameTune(c.tune, c.other))
	tune, ok := impl.AddAccent(c.tune, c.a)
	r.tune("AddAccent", tune, ok)
	tune, ok = impl.MoveTune(c.tune, c.x)
	r.tune("MoveTune", tune, ok)
	x, ok := impl.BumpAt(c.a, c.x)
	r.number("BumpAt", x, ok)
	x, ok = impl.PitchAt(c.tune, c.x, c.y)
	r.number("PitchAt", x, ok)
	pitches, ok := impl.PitchesOf(c.tune, c.y, c.n)
	r.numbers("PitchesOf", pitches, ok)
}

// all tells all results in a text.
func (c speechCall) all(t *testing.T) string {
	t.Helper()
	r := &speech{t: t}
	c.ofSounds(r)
	c.ofFrames(r)
	c.ofTunes(r)
	return r.text
}

// argumentsText tells all arguments, with the unused capacity of the lists.
func (c speechCall) argumentsText() string {
	text := fmt.Sprintln(c.names[:cap(c.names)], c.stress[:cap(c.stress)], bitsText(c.lengths[:cap(c.lengths)]))
	for _, s := range append([]impl.Sound{c.s}, slices.Concat(c.list[:cap(c.list)], c.others[:cap(c.others)])...) {
		s.Areas = s.Areas[:cap(s.Areas)]
		text += targetText(s) + "\n"
	}
	for _, f := range append([]impl.Frame{c.f, c.g}, c.frames[:cap(c.frames)]...) {
		f.Areas = f.Areas[:cap(f.Areas)]
		text += momentText(f) + "\n"
	}
	for _, tune := range []impl.Tune{c.tune, c.other} {
		tune.Accents = tune.Accents[:cap(tune.Accents)]
		text += tuneText(tune) + "\n"
	}
	return text
}

// elsewhere returns equal arguments in other memory, without unused capacity.
func (c speechCall) elsewhere() speechCall {
	c.s.Areas = slices.Concat(c.s.Areas)
	for _, list := range []*[]impl.Sound{&c.list, &c.others} {
		*list = slices.Concat(*list)
		for k := range *list {
			(*list)[k].Name = strings.Clone((*list)[k].Name)
			(*list)[k].Areas = slices.Concat((*list)[k].Areas)
		}
	}
	c.names, c.stress, c.lengths, c.frames = slices.Concat(c.names), slices.Concat(c.stress), slices.Concat(c.lengths), slices.Concat(c.frames)
	for k := range c.names {
		c.names[k] = strings.Clone(c.names[k])
	}
	for k := range c.frames {
		c.frames[k].Areas = slices.Concat(c.frames[k].Areas)
	}
	c.f.Areas, c.g.Areas = slices.Concat(c.f.Areas), slices.Concat(c.g.Areas)
	c.tune.Accents, c.other.Accents = slices.Concat(c.tune.Accents), slices.Concat(c.other.Accents)
	return c
}

func (c speechCall) twice(t *testing.T) {
	t.Helper()
	before := c.argumentsText()
	one, two, three := c.all(t), c.all(t), c.elsewhere().all(t)
	if one != two || one != three {
		t.Errorf("%v: got %s, then %s, and then %s", c, one, two, three)
	}
	if after := c.argumentsText(); after != before {
		t.Errorf("%v: the arguments %s became %s", c, before, after)
	}
}

// withRoom returns a list with room behind it, which is filled.
func withRoom[T any](list []T, more T) []T {
	return append(append(make([]T, 0, len(list)+5), list...), repeat(more, 5)...)[:len(list)]
}

func roomyTargets(list ...impl.Sound) []impl.Sound {
	list = withRoom(list, plainTarget("q"))
	for k := range list {
		list[k].Areas = roomy(list[k].Areas...)
	}
	return list
}

func roomyMoments(frames ...impl.Frame) []impl.Frame {
	frames = withRoom(frames, momentOf(7, 0, 1, 8, 9))
	for k := range frames {
		frames[k].Areas = roomy(frames[k].Areas...)
	}
	return frames
}

func roomyTune(tune impl.Tune) impl.Tune {
	tune.Accents = withRoom(tune.Accents, accentOf(7, 8, 9))
	return tune
}

// goodSpeech are arguments that most functions take, with room behind all lists.
func goodSpeech() []speechCall {
	calls := []speechCall{}
	for k, tune := range goodTunes() {
		for n, x := range []float32{0.25, 0.5, 1} {
			c := speechCall{list: roomyTargets(targetOf("a", []float32{1, 3}, 2, 1, 1, 0), targetOf("ab", []float32{3, 1}, 1, 0, 0, 1), targetOf("m", []float32{2, 2}, 4, 8, 0.5, 0.5)), x: x, y: 7, n: int64(2 + n)}
			c.others, c.s = roomyTargets(c.list...), roomyTargets(targetOf([]string{"b", "aa", "z", "ab"}[k%4], []float32{5, 6}, 2, 1, 0, 0))[0]
			c.names, c.stress, c.lengths = withRoom([]string{"a", "m", "ab", "a"}, "m"), withRoom([]bool{k%2 == 0, true, false, k%3 == 0}, true), roomy(0.125, 0.25, 1, 2)
			c.frames = roomyMoments(momentOf(100, 1, 0, 1, 3), momentOf(50, 0.5, 1, 3, 1), momentOf(1, 0, 0, 9, 9))
			c.f, c.g = c.frames[1], roomyMoments(momentOf(7, 0, 1, 8, 9))[0]
			c.tune, c.other, c.a = roomyTune(tune), roomyTune(tune), accentOf(1, 4, 2)
			calls = append(calls, c)
		}
	}
	return calls
}

func TestSpeechIsNotModifiedAndToldTwiceTheSame(t *testing.T) {
	for _, c := range goodSpeech() {
		c.twice(t)
	}
}

func TestSpeechOfAnyArgumentsReturns(t *testing.T) {
	counts := []int64{0, 1, -1, 2, 3, 63, 64, 65, 128, math.MaxInt64, math.MinInt64, 1 << 32, 1<<32 + 3}
	lists := append(badTargetLists(), nil, []impl.Sound{}, plainTargets("a"), plainTargets("a", "b"), rampTargets(1, 2), plainTargets(someNames(16)...))
	sounds, frames, tunes, accents := append(badTargets(), goodTargets()...), append(badMoments(), goodMoments()...), append(badTunes(), goodTunes()...), append(badAccents(), goodAccents()...)
	names := append(badNameLists(), []string{"a"}, []string{"a", "b"}, []string{"b", "a", "b"}, repeat("a", 24), someNames(16))
	numbers := edges()
	for i := range 40 {
		for j, x := range numbers {
			k := 7*i + 3*j
			y, z := numbers[(i+3*j)%len(numbers)], numbers[(5*i+j)%len(numbers)]
			c := speechCall{list: lists[k%len(lists)], others: lists[(i+j)%len(lists)], s: sounds[k%len(sounds)], names: names[k%len(names)], f: frames[k%len(frames)], g: frames[(i+j)%len(frames)], tune: tunes[k%len(tunes)], other: tunes[(i+j)%len(tunes)], a: accents[k%len(accents)], x: x, y: y, n: counts[(i+j)%len(counts)]}
			c.stress, c.lengths, c.frames = make([]bool, len(c.names)+i%2), repeat(z, len(c.names)+j%2), []impl.Frame{c.f, c.g}
			c.twice(t)
			// Sounds, frames and tunes of any numbers, which are valid if these are.
			c.list = []impl.Sound{targetOf("a", []float32{1, x}, 2, y, 1, 0), targetOf("b", []float32{z, 1}, y, x, z, 0.5)}
			c.others, c.s, c.names, c.stress, c.lengths = c.list[:1], targetOf("ab", []float32{y, z}, x, y, z, 1), []string{"a", "b", "b"}, []bool{true, false, true}, []float32{x, y, 1}
			c.f, c.g, c.tune, c.a = momentOf(x, y, 0, z, 1), momentOf(z, 0, y, x, 2), tuneOf(x, y, z, accentOf(y, z, x), accentOf(z, x, y)), accentOf(x, y, z)
			c.frames, c.x, c.y, c.n = []impl.Frame{c.f, c.g, c.f}, z, x, int64(1+i%4)
			c.twice(t)
		}
	}
}

// spoilTargets, spoilMoments and spoilTune write into all memory of a result.
func spoilTargets(list []impl.Sound) {
	for k := range list[:cap(list)] {
		spoil(list[:cap(list)][k].Areas)
		list[:cap(list)][k] = targetOf("spoilt", nil, 9, 9, 9, 9)
	}
}

func spoilMoments(frames []impl.Frame) {
	for k := range frames[:cap(frames)] {
		spoil(frames[:cap(frames)][k].Areas)
		frames[:cap(frames)][k] = momentOf(9, 9, 9, 9)
	}
}

func spoilTune(tune impl.Tune) {
	accents := tune.Accents[:cap(tune.Accents)]
	for k := range accents {
		accents[k] = accentOf(9, 9, 9)
	}
}

func TestSpeechThatIsReturnedIsNew(t *testing.T) {
	for _, c := range goodSpeech() {
		before := c.argumentsText()
		check := func(name string, ok bool) {
			if after := c.argumentsText(); !ok || after != before {
				t.Errorf("%s %v: with another result, the arguments %s became %s", name, ok, before, after)
			}
		}
		more, ok := impl.AddSound(c.list, impl.Sound{Name: "k", Areas: c.s.Areas, Long: 1})
		spoilTargets(more)
		check("AddSound", ok)
		for _, name := range []string{"a", "ab", "m"} {
			less, ok := impl.DropSound(c.list, name)
			spoilTargets(less)
			check("DropSound", ok)
		}
		stretched, ok := impl.StretchSounds(c.list, 1)
		spoilTargets(stretched)
		check("StretchSounds", ok)
		lengths, ok := impl.LengthsOf(c.list, c.names, c.stress)
		spoil(lengths)
		check("LengthsOf", ok)
		for _, share := range []float32{0, 0.5, 1} {
			f, ok := impl.MixFrames(c.f, c.g, share)
			spoilMoments([]impl.Frame{f})
			check("MixFrames", ok)
		}
		f, ok := impl.FrameOf(c.s, 0)
		spoilMoments([]impl.Frame{f})
		check("FrameOf", ok)
		for _, time := range []float32{0, 0.1, 0.125, 1.5, 9} {
			f, ok = impl.FrameAt(c.list, c.names, c.lengths, time)
			spoilMoments([]impl.Frame{f})
			check("FrameAt", ok)
		}
		tube, ok := impl.TubeOfFrame(c.f)
		spoil(tube.Areas)
		check("TubeOfFrame", ok)
		tune, _ := impl.AddAccent(c.tune, c.a)
		spoilTune(tune)
		check("AddAccent", true)
		tune, ok = impl.MoveTune(c.tune, 1)
		spoilTune(tune)
		check("MoveTune", ok)
		frames, _ := impl.SpeakFrames(c.list, c.names, c.stress, c.tune, 0.5)
		spoilMoments(frames)
		check("SpeakFrames", true)
		sways, ok := impl.SwaysOf(c.frames)
		spoil(sways)
		check("SwaysOf", ok)
	}
}

// Parts of one result share no memory with one another: what is written to one of them is not found in another one.
func TestPartsOfSpeechAreApart(t *testing.T) {
	areas := []float32{1, 2}
	list := []impl.Sound{targetOf("a", areas, 2, 0, 0, 0), targetOf("b", areas, 2, 0, 0, 0)}
	more, _ := impl.AddSound(list, targetOf("c", areas, 2, 0, 0, 0))
	less, _ := impl.DropSound(more, "b")
	slow, _ := impl.StretchSounds(list, 2)
	for _, result := range [][]impl.Sound{more, less, slow} {
		if len(result) < 2 {
			t.Fatalf("got %v", result)
		}
		for k := range result {
			spoil(result[k].Areas)
			for _, s := range result[k+1:] {
				wantNumbers(t, fmt.Sprint("areas behind the sound ", k, " of ", len(result)), s.Areas, true, bitsText([]float32{1, 2}))
			}
		}
	}
	frames, ok := impl.SpeakFrames(list, []string{"a", "b", "a"}, make([]bool, 3), tuneOf(100, 0, 0), 0.5)
	if !ok || len(frames) != 14 {
		t.Fatalf("SpeakFrames: got %v %v", frames, ok)
	}
	for k := range frames {
		spoil(frames[k].Areas)
		for _, f := range frames[k+1:] {
			wantNumbers(t, fmt.Sprint("areas behind the frame ", k), f.Areas, true, bitsText([]float32{1, 2}))
		}
	}
}

// Calls at the same time do not reach one another.
func TestSpeechAtTheSameTime(t *testing.T) {
	calls := goodSpeech()
	want := make([]string, len(calls))
	for k, c := range calls {
		want[k] = c.all(t)
	}
	got := make([]string, 4*len(calls))
	var all sync.WaitGroup
	for k := range got {
		all.Add(1)
		go func() {
			defer all.Done()
			got[k] = calls[k%len(calls)].all(t)
		}()
	}
	all.Wait()
	for k, text := range got {
		if text != want[k%len(calls)] {
			t.Errorf("%v: got %s, want %s", calls[k%len(calls)], text, want[k%len(calls)])
		}
	}
}
