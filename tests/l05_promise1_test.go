package tests

import (
	"fmt"
	"math"
	"strings"
	"sync"
	"testing"

	"loop.example/g01279/impl"
)

// measureCall has arguments of all functions of chapter 5.
type measureCall struct {
	a, b, powers []float32
	list         []complex64
	edges        []int64
	frames       [][]float32
	x            float32
	n, m         int64
	codes        string
}

// measures tells the results of functions in a text, and checks that they are finite, and zero values where a function fails.
type measures struct {
	t    *testing.T
	text string
}

func (r *measures) number(name string, ok bool, parts ...float32) {
	r.t.Helper()
	for _, x := range parts {
		r.text += outcome(r.t, name, ok, oneText(x))
		if !impl.IsFinite(x) {
			r.t.Errorf("%s: %v is not finite", name, x)
		}
	}
}

func (r *measures) sound(name string, list []float32, ok bool) {
	r.t.Helper()
	r.text += outcome(r.t, name, ok, bitsText(list))
	if !impl.IsSound(list) {
		r.t.Errorf("%s: %v is no sound", name, list)
	}
}

func (r *measures) whole(name string, n int64, ok bool) {
	r.t.Helper()
	r.text += outcome(r.t, name, ok, fmt.Sprint(n))
}

// ofSpectra calls all functions with windows and spectra.
func (c measureCall) ofSpectra(r *measures) {
	r.t.Helper()
	list, ok := impl.WindowOf(c.n, c.m)
	r.sound("WindowOf", list, ok)
	list, ok = impl.WindowSound(c.a, c.b)
	r.sound("WindowSound", list, ok)
	spectrum, ok := impl.SpectrumOf(c.a, c.n)
	r.text += outcome(r.t, "SpectrumOf", ok, complexBits(spectrum))
	for _, x := range spectrum {
		r.number("SpectrumOf", ok, real(x), imag(x))
	}
	list, ok = impl.PowersOfSpectrum(c.list)
	r.sound("PowersOfSpectrum", list, ok)
	list, ok = impl.BackToSound(c.list)
	r.sound("BackToSound", list, ok)
	list, ok = impl.BandsOf(c.powers, c.edges)
	r.sound("BandsOf", list, ok)
	x, ok := impl.CentreOfPowers(c.powers)
	r.number("CentreOfPowers", ok, x)
}

// ofPeriods calls all functions with lags and frames.
func (c measureCall) ofPeriods(r *measures) {
	r.t.Helper()
	list, ok := impl.SelfSums(c.a, c.m)
	r.sound("SelfSums", list, ok)
	n, x, ok := impl.PeriodOfSound(c.a, c.n, c.m)
	r.whole("PeriodOfSound", n, ok)
	r.number("PeriodOfSound", ok, x)
	r.text += fmt.Sprint(impl.IsVoiced(c.a, c.n, c.m, c.x))
	n, ok = impl.CrossingsOf(c.a)
	r.whole("CrossingsOf", n, ok)
	frames, ok := impl.FramesOf(c.a, c.n, c.m)
	r.text += outcome(r.t, "FramesOf", ok, framesText(frames))
	for _, frame := range frames {
		r.sound("FramesOf", frame, ok)
	}
	list, ok = impl.LoudFrames(c.a, c.n, c.m)
	r.sound("LoudFrames", list, ok)
	list, ok = impl.JoinFrames(c.frames, c.m)
	r.sound("JoinFrames", list, ok)
}

// ofShapes calls all functions with shapes and codes.
func (c measureCall) ofShapes(r *measures) {
	r.t.Helper()
	list, ok := impl.RoughSound(c.a, c.x)
	r.sound("RoughSound", list, ok)
	list, ok = impl.SmoothSound(c.a, c.x)
	r.sound("SmoothSound", list, ok)
	list, ok = impl.StretchSound(c.a, c.n)
	r.sound("StretchSound", list, ok)
	list, ok = impl.ThinSound(c.a, c.n)
	r.sound("ThinSound", list, ok)
	n, ok := impl.CodeOf(c.x)
	r.whole("CodeOf", n, ok)
	x, ok := impl.FromCode(c.n)
	r.number("FromCode", ok, x)
	codes, ok := impl.CodeSound(c.a)
	r.text += outcome(r.t, "CodeSound", ok, fmt.Sprintf("%x", codes))
	list, ok = impl.FromCodes(c.codes)
	r.sound("FromCodes", list, ok)
	x, ok = impl.WorstCoded(c.a)
	r.number("WorstCoded", ok, x)
}

// all tells all results in a text.
func (c measureCall) all(t *testing.T) string {
	t.Helper()
	r := &measures{t: t}
	c.ofSpectra(r)
	c.ofPeriods(r)
	c.ofShapes(r)
	return r.text
}

// argumentsText tells all arguments, with the unused capacity of the lists.
func (c measureCall) argumentsText() string {
	text := complexBits(c.list[:cap(c.list)]) + fmt.Sprint(c.edges[:cap(c.edges)]) + "\n"
	for _, list := range append([][]float32{c.a, c.b, c.powers}, c.frames[:cap(c.frames)]...) {
		text += bitsText(list[:cap(list)]) + "\n"
	}
	return text
}

// elsewhere returns equal arguments in other memory, without unused capacity.
func (c measureCall) elsewhere() measureCall {
	for _, list := range []*[]float32{&c.a, &c.b, &c.powers} {
		again := make([]float32, len(*list))
		copy(again, *list)
		*list = again
	}
	frames := make([][]float32, len(c.frames))
	for k, frame := range c.frames {
		frames[k] = append(make([]float32, 0, len(frame)), frame...)
	}
	c.frames = frames
	c.list = append(make([]complex64, 0, len(c.list)), c.list...)
	c.edges = append(make([]int64, 0, len(c.edges)), c.edges...)
	return c
}

func (c measureCall) twice(t *testing.T) {
	t.Helper()
	before := c.argumentsText()
	one, two, three := c.all(t), c.all(t), c.elsewhere().all(t)
	if one != two || one != three {
		t.Errorf("%v: got %s, then %s, and then %s", c, one, two, three)
	}
	if after := c.argumentsText(); after != before {
		t.Errorf("%v: the arguments %s became %s", c, before, after)
	}
}

// roomyFrames returns frames with room behind the list and behind each of them.
func roomyFrames(frames ...[]float32) [][]float32 {
	list := make([][]float32, 0, len(frames)+3)
	for _, frame := range frames {
		list = append(list, roomy(frame...))
	}
	copy(list[len(list):cap(list)], [][]float32{{1, 2}, {3}, {4, 5, 6}})
	return list
}

// goodMeasures are arguments that most functions take, with room behind all lists.
func goodMeasures() []measureCall {
	calls := []measureCall{}
	for k, sound := range [][]float32{{1, -2, 3, 0.5, -0.25, 0.125, 7, 8}, {0, 1, 0, 1, minus0, 1}, {0.5, -0.5}, wholeNumbers(20)} {
		for n := range int64(4) {
			c := measureCall{a: roomy(sound...), b: roomy(wholeNumbers(len(sound))...), powers: roomy(1, 0, 2, 0.5), x: 0.75 - float32(n)/2, n: n, m: int64(k) + 1, codes: "\x00a\x80\xff"[:n+1]}
			c.list = append(append(make([]complex64, 0, 40), wholeSpectrum(k+2)...), 7, 8, 9)[:k+2]
			c.edges = append(make([]int64, 0, 10), 0, 1, 1, n+1, 7, 8, 9)[:4]
			c.frames = roomyFrames(repeat([]float32{1, -2, 3}, k+1)...)
			calls = append(calls, c)
		}
	}
	return calls
}

func TestMeasuresAreNotModifiedAndToldTwiceTheSame(t *testing.T) {
	for _, c := range goodMeasures() {
		c.twice(t)
	}
}

func TestMeasuresOfAnyArgumentsReturn(t *testing.T) {
	counts := []int64{0, 1, -1, 2, 3, 4, 5, 63, 64, 65, 128, 255, 256, 257, math.MaxInt64, math.MinInt64, 1 << 32, 1<<32 + 3, 1<<32 + 128}
	lists := append(badSounds(), nil, []float32{}, []float32{0}, []float32{most, -most}, []float32{least, minus0}, []float32{4, 2, 1}, repeat(most, 256), repeat(float32(-1), 255), repeat(float32(0.5), 64), []float32{0x1p64, 1}, wholeNumbers(100))
	powers := append(badPowers(), nil, []float32{0}, []float32{1, 2}, []float32{minus0, most}, []float32{most, most}, repeat(float32(1), 64))
	spectra := append(badSpectra(), wholeSpectrum(64), wholeSpectrum(3), []complex64{complex(most, -most)}, []complex64{0}, repeat(complex64(complex(most, most)), 64))
	bands := append(append(badEdges(2), badEdges(64)...), []int64{0, 0}, []int64{0, 1}, []int64{0, 1, 2}, []int64{1, 64})
	frames := [][][]float32{nil, {}, {{}}, {{1}}, {{1, 2}, {3}}, {{1, 2}, {3, 4}}, {{most}, {most}}, {{inf, 1}, {1, nan}}, repeat([]float32{1}, 256), repeat([]float32{1}, 257), {repeat(float32(1), 256)}, {repeat(float32(1), 257)}, repeat([]float32{most, -most}, 3)}
	codes := []string{"", "a", "\x80", "\x00\xff", strings.Repeat("\xff", 256), strings.Repeat("\x01", 257)}
	numbers := edges()
	for i := range 60 {
		for j, x := range numbers {
			k := 7*i + 3*j
			y, z := numbers[(i+3*j)%len(numbers)], numbers[(5*i+j)%len(numbers)]
			c := measureCall{a: lists[k%len(lists)], b: lists[(i+2*j)%len(lists)], powers: powers[k%len(powers)], list: spectra[k%len(spectra)], edges: bands[k%len(bands)], frames: frames[k%len(frames)]}
			c.x, c.n, c.m, c.codes = x, counts[(i+j)%len(counts)], counts[(i+2*j+1)%len(counts)], codes[k%len(codes)]
			c.twice(t)
			c.a, c.b, c.powers, c.list, c.edges = []float32{x, y, z}, []float32{z, x, y}, []float32{y, z, x}, []complex64{complex(x, y), complex(z, x)}, []int64{0, c.n, 3}
			c.frames, c.n, c.m = [][]float32{{x, y}, {y, z}}, int64(1+i%3), int64(1+j%4)
			c.twice(t)
		}
	}
}

func TestMeasuresThatAreReturnedAreNew(t *testing.T) {
	for _, sound := range [][]float32{{0.5, -0.25}, {2, 1, 0.5}, wholeNumbers(30)} {
		c := measureCall{a: roomy(sound...), b: roomy(repeat(float32(1), len(sound))...), powers: roomy(repeat(float32(1), len(sound))...), list: wholeSpectrum(3), edges: []int64{0, 1}, frames: roomyFrames(sound)}
		before := c.argumentsText()
		results := 0
		add := func(got []float32, ok bool) {
			spoil(got[:cap(got)])
			if ok {
				results++
			}
			if after := c.argumentsText(); after != before {
				t.Errorf("%v: with another result, the arguments %s became %s", sound, before, after)
			}
		}
		add(impl.WindowSound(c.a, c.b))
		add(impl.WindowSound(c.b, c.a))
		add(impl.BackToSound(c.list))
		add(impl.BandsOf(c.powers, c.edges))
		add(impl.SelfSums(c.a, int64(len(sound))))
		add(impl.JoinFrames(c.frames, 1))
		add(impl.RoughSound(c.a, 0))
		add(impl.SmoothSound(c.a, 0))
		add(impl.StretchSound(c.a, int64(len(sound))))
		add(impl.ThinSound(c.a, 1))
		for _, size := range []int64{1, 2, int64(len(sound))} {
			frames, ok := impl.FramesOf(c.a, size, 1)
			for _, frame := range frames {
				add(frame, ok)
			}
		}
		if want := 10 + len(sound) + len(sound) - 1 + 1; results != want {
			t.Errorf("%v: %d results, want %d", sound, results, want)
		}
	}
}

// Calls at the same time do not reach one another, though some of them do their work beside.
func TestMeasuresAtTheSameTime(t *testing.T) {
	calls := goodMeasures()
	want := make([]string, len(calls))
	for k, c := range calls {
		want[k] = c.all(t)
	}
	got := make([]string, 8*len(calls))
	var all sync.WaitGroup
	for k := range got {
		all.Add(1)
		go func() {
			defer all.Done()
			got[k] = calls[k%len(calls)].all(t)
		}()
	}
	all.Wait()
	for k, text := range got {
		if text != want[k%len(calls)] {
			t.Errorf("%v: got %s, want %s", calls[k%len(calls)], text, want[k%len(calls)])
		}
	}
}
