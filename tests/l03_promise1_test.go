package tests

import (
	"fmt"
	"math"
	"testing"

	"loop.example/g01279/impl"
)

// throatCall has arguments of all functions of chapter 3.
type throatCall struct {
	throat, other impl.Throat
	v, w          impl.Voice
	e, f          impl.Envelope
	x, y, z       float32
	n, m          int64
	a, b          []float32
}

// ofThroats calls all functions with throats and voices, and tells all results in a text.
func (c throatCall) ofThroats(t *testing.T) string {
	t.Helper()
	text := fmt.Sprint(impl.ValidThroat(c.throat), impl.SameThroat(c.throat, c.other), impl.ValidVoice(c.v), impl.SameVoice(c.v, c.w))
	tell := func(name string, ok bool, v impl.Voice, results ...string) {
		t.Helper()
		text += outcome(t, name, ok, append(results, oneText(v.Phase), oneText(v.Now), fmt.Sprint(v.Seed))...)
		if ok && !impl.ValidVoice(v) {
			t.Errorf("%s: %v is not valid", name, v)
		}
	}
	flow, ok := impl.PulseAt(c.throat, c.x)
	text += outcome(t, "PulseAt", ok, oneText(flow))
	list, ok := impl.FlowOfThroat(c.throat, c.n)
	text += outcome(t, "FlowOfThroat", ok, bitsText(list))
	flow, ok = impl.MeanFlow(c.throat, c.n)
	text += outcome(t, "MeanFlow", ok, oneText(flow))
	v, ok := impl.NewVoice(c.throat, c.m)
	tell("NewVoice", ok, v)
	v, out, ok := impl.StepVoice(c.throat, c.v)
	tell("StepVoice", ok, v, oneText(out))
	v, all, ok := impl.RunVoice(c.throat, c.v, c.n)
	tell("RunVoice", ok, v, bitsText(all))
	return text
}

// ofSounds calls all functions with rates, envelopes and sounds, and tells all results in a text.
func (c throatCall) ofSounds(t *testing.T) string {
	t.Helper()
	text := fmt.Sprint(impl.ValidEnvelope(c.e), impl.SameEnvelope(c.e, c.f), impl.IsSound(c.a))
	number := func(name string, x float32, ok bool) {
		t.Helper()
		text += outcome(t, name, ok, oneText(x))
		if !impl.IsFinite(x) {
			t.Errorf("%s: %v is not finite", name, x)
		}
	}
	list := func(name string, sound []float32, ok bool) {
		t.Helper()
		text += outcome(t, name, ok, bitsText(sound))
		if !impl.IsSound(sound) {
			t.Errorf("%s: %v is no sound", name, sound)
		}
	}
	x, ok := impl.NoteRate(c.x)
	number("NoteRate", x, ok)
	sound, ok := impl.GlideOf(c.x, c.y, c.n)
	list("GlideOf", sound, ok)
	sound, ok = impl.TrembleOf(c.x, c.y, c.z, c.n)
	list("TrembleOf", sound, ok)
	x, ok = impl.EnvelopeAt(c.e, c.n)
	number("EnvelopeAt", x, ok)
	sound, ok = impl.ShapeBy(c.a, c.e)
	list("ShapeBy", sound, ok)
	sound, ok = impl.MixSounds(c.a, c.b, c.x, c.y)
	list("MixSounds", sound, ok)
	x, ok = impl.LoudOf(c.a)
	number("LoudOf", x, ok)
	at, x, ok := impl.PeakOfSound(c.a)
	number("PeakOfSound", x, ok)
	text += outcome(t, "PeakOfSound", ok, fmt.Sprint(at))
	sound, ok = impl.ScaleToPeak(c.a, c.x)
	list("ScaleToPeak", sound, ok)
	sound, ok = impl.SoftenSound(c.a, c.n, c.m)
	list("SoftenSound", sound, ok)
	sound, ok = impl.EchoSound(c.a, c.n, c.x)
	list("EchoSound", sound, ok)
	return text
}

// argumentsText tells all arguments, with the unused capacity of the lists.
func (c throatCall) argumentsText() string {
	text := fmt.Sprintln(c.e.Times[:cap(c.e.Times)], c.f.Times[:cap(c.f.Times)])
	for _, list := range [][]float32{c.e.Levels, c.f.Levels, c.a, c.b} {
		text += bitsText(list[:cap(list)]) + "\n"
	}
	return text
}

func (c throatCall) twice(t *testing.T) {
	t.Helper()
	before := c.argumentsText()
	one := c.ofThroats(t) + c.ofSounds(t)
	two := c.ofThroats(t) + c.ofSounds(t)
	if one != two {
		t.Errorf("%v: got %s and then %s", c, one, two)
	}
	if after := c.argumentsText(); after != before {
		t.Errorf("%v: the arguments %s became %s", c, before, after)
	}
}

func roomyEnvelope(e impl.Envelope) impl.Envelope {
	times := append(append(make([]int64, 0, len(e.Times)+20), e.Times...), repeat(int64(7), 20)...)[:len(e.Times)]
	return impl.Envelope{Times: times, Levels: roomy(e.Levels...)}
}

func TestThroatsAreNotModifiedAndToldTwiceTheSame(t *testing.T) {
	for i, throat := range goodThroats() {
		for j, v := range goodVoices() {
			for _, e := range goodEnvelopes() {
				c := throatCall{throat: throat, other: goodThroats()[j], v: v, w: goodVoices()[0], e: roomyEnvelope(e), f: roomyEnvelope(e), x: 0.5, y: 0.25, z: -0.125, n: int64(1 + j), m: int64(i % 8)}
				c.a, c.b = roomy(1, -2, 3, 0.5, -0.25, 0.125, 7, 8), roomy(3, 1, -1, 2, 0, 5, 6, -7)
				c.twice(t)
			}
		}
	}
}

func TestThroatsOfAnyArgumentsReturn(t *testing.T) {
	counts := []int64{0, 1, -1, 2, 3, 16, 17, 255, 256, 257, math.MaxInt64, math.MinInt64, 1 << 32, 1<<32 + 3, mostSeed, mostSeed + 1}
	lists := append(badSounds(), nil, []float32{}, []float32{0}, []float32{most, -most}, []float32{least, minus0}, repeat(most, 256), repeat(float32(-1), 255))
	numbers := edges()
	throats, voices, envelopes := append(badThroats(), goodThroats()...), append(badVoices(), goodVoices()...), append(badEnvelopes(), goodEnvelopes()...)
	for i := range 150 {
		for j, x := range numbers {
			k := 7*i + 3*j
			c := throatCall{throat: throats[i%len(throats)], other: throats[k%len(throats)], v: voices[k%len(voices)], w: voices[i%len(voices)], e: envelopes[k%len(envelopes)], f: envelopes[i%len(envelopes)]}
			c.x, c.y, c.z = x, numbers[(i+3*j)%len(numbers)], numbers[(5*i+j)%len(numbers)]
			c.n, c.m = counts[(i+j)%len(counts)], counts[(i+2*j+1)%len(counts)]
			c.a, c.b = lists[(i+j)%len(lists)], lists[(i+k)%len(lists)]
			c.twice(t)
		}
	}
}

// Failing and valid parts of any throats, voices and envelopes are told together.
func TestThroatsOfAnyNumbersReturn(t *testing.T) {
	for i, x := range edges() {
		for j, y := range edges() {
			z := edges()[(i+j)%len(edges())]
			c := throatCall{throat: throatOf(4, x, y, z, 0.25), other: throatOf(x, 0.25, 0.25, y, z), v: impl.Voice{Phase: x, Now: y, Seed: 5}, x: z, y: x, z: y, n: 3, m: 1}
			c.e, c.a, c.b = impl.Envelope{Times: []int64{0, 2, 3}, Levels: []float32{x, y, z}}, []float32{x, y, z}, []float32{y, z, x}
			c.twice(t)
			c.throat, c.other, c.v = c.other, c.throat, impl.Voice{Phase: 0.5, Now: x, Seed: 7}
			c.twice(t)
		}
	}
}

func TestSoundsThatAreReturnedAreNew(t *testing.T) {
	for _, sound := range [][]float32{{1, -2, 3}, {4}, {}} {
		c := throatCall{e: roomyEnvelope(impl.Envelope{Times: []int64{0}, Levels: []float32{1}}), a: roomy(sound...), b: roomy(sound...)}
		before := c.argumentsText()
		add := func(list []float32, ok bool) {
			spoil(list)
			if after := c.argumentsText(); !ok && len(sound) > 0 || after != before {
				t.Errorf("%v: with another result, the arguments %s became %s", sound, before, after)
			}
		}
		add(impl.ShapeBy(c.a, c.e))
		add(impl.MixSounds(c.a, c.b, 1, 0))
		add(impl.MixSounds(c.a, c.b, 0, 1))
		add(impl.SoftenSound(c.a, 0, 0))
		add(impl.EchoSound(c.a, 256, 0))
		_, peak, _ := impl.PeakOfSound(c.a)
		add(impl.ScaleToPeak(c.a, peak))
	}
}

// Voices go on only as their arguments tell: others between do not change what comes out.
func TestVoicesDoNotKnowOfOthers(t *testing.T) {
	throat := throatOf(4.5, 0.5, 0.25, 0.5, 0.5)
	first, _ := impl.NewVoice(throat, 1)
	_, want, _ := impl.RunVoice(throat, first, 50)
	other, _ := impl.NewVoice(throat, 999)
	v := first
	for k := range 50 {
		other, _, _ = impl.StepVoice(throat, other)
		next, out, ok := impl.StepVoice(throat, v)
		if !ok {
			t.Fatalf("StepVoice %v failed", v)
		}
		wantNumber(t, fmt.Sprint("the tick ", k), out, want[k])
		v = next
	}
}
