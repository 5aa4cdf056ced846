package tests

import (
	"fmt"
	"math"
	"testing"

	"loop.example/g01279/impl"
)

// predictorCall has arguments of all functions of chapter 4.
type predictorCall struct {
	p, q    impl.Predictor
	x       float32
	n, m    int64
	a, b    []float32
	ladder  []float32
	ladder2 []float32
}

// ofPredictors calls all functions with lags, ladders and predictors, and tells all results in a text.
func (c predictorCall) ofPredictors(t *testing.T) string {
	t.Helper()
	text := fmt.Sprint(impl.ValidPredictor(c.p), impl.SamePredictor(c.p, c.q))
	tell := func(name string, p impl.Predictor, ok bool) {
		t.Helper()
		text += outcome(t, name, ok, bitsText(p.Steps), oneText(p.Gain))
		if ok && !impl.ValidPredictor(p) {
			t.Errorf("%s: %v is not valid", name, p)
		}
	}
	list := func(name string, numbers []float32, ok, ladder bool) {
		t.Helper()
		text += outcome(t, name, ok, bitsText(numbers))
		for _, x := range numbers {
			if !impl.IsFinite(x) || ladder && !(x > -1 && x < 1) {
				t.Errorf("%s: %v are not such numbers", name, numbers)
			}
		}
	}
	numbers, ok := impl.LagsOf(c.a, c.n)
	list("LagsOf", numbers, ok, false)
	numbers, ok = impl.LadderOf(c.b)
	list("LadderOf", numbers, ok, true)
	p, ok := impl.PredictorOf(c.b)
	tell("PredictorOf", p, ok)
	p, ok = impl.StepUp(c.ladder, c.x)
	tell("StepUp", p, ok)
	numbers, ok = impl.StepDown(c.p)
	list("StepDown", numbers, ok, true)
	p, ok = impl.DampPredictor(c.p, c.x)
	tell("DampPredictor", p, ok)
	numbers, ok = impl.MixLadders(c.ladder, c.ladder2, c.x)
	list("MixLadders", numbers, ok, true)
	numbers, ok = impl.AreasOfPredictor(c.p, c.x)
	list("AreasOfPredictor", numbers, ok, false)
	return text
}

// ofSounds calls all functions with sounds, and tells all results in a text.
func (c predictorCall) ofSounds(t *testing.T) string {
	t.Helper()
	text := ""
	number := func(name string, ok bool, parts ...float32) {
		t.Helper()
		for _, x := range parts {
			text += outcome(t, name, ok, oneText(x))
			if !impl.IsFinite(x) {
				t.Errorf("%s: %v is not finite", name, x)
			}
		}
	}
	list := func(name string, sound []float32, ok bool) {
		t.Helper()
		text += outcome(t, name, ok, bitsText(sound))
		if !impl.IsSound(sound) {
			t.Errorf("%s: %v is no sound", name, sound)
		}
	}
	x, ok := impl.PredictAt(c.p, c.a, c.n)
	number("PredictAt", ok, x)
	sound, ok := impl.ResidueOf(c.p, c.a)
	list("ResidueOf", sound, ok)
	sound, ok = impl.MakeAgain(c.p, c.a)
	list("MakeAgain", sound, ok)
	sound, ok = impl.DrivePredictor(c.p, c.a)
	list("DrivePredictor", sound, ok)
	sound, ok = impl.LadderResidue(c.ladder, c.a)
	list("LadderResidue", sound, ok)
	answer, ok := impl.PredictorResponse(c.p, c.x)
	number("PredictorResponse", ok, real(answer), imag(answer))
	x, ok = impl.PredictionGain(c.p, c.a)
	number("PredictionGain", ok, x)
	x, ok = impl.EnergyOfSound(c.a)
	number("EnergyOfSound", ok, x)
	x, ok = impl.ReachOfSound(c.a)
	number("ReachOfSound", ok, x)
	sound, ok = impl.AddSounds(c.a, c.b)
	list("AddSounds", sound, ok)
	sound, ok = impl.ScaleSound(c.a, c.x)
	list("ScaleSound", sound, ok)
	sound, ok = impl.FadeEnds(c.a, c.n, c.m)
	list("FadeEnds", sound, ok)
	sound, ok = impl.JoinSounds(c.a, c.b, c.m)
	list("JoinSounds", sound, ok)
	return text
}

// argumentsText tells all arguments, with the unused capacity of the lists.
func (c predictorCall) argumentsText() string {
	text := ""
	for _, list := range [][]float32{c.p.Steps, c.q.Steps, c.a, c.b, c.ladder, c.ladder2} {
		text += bitsText(list[:cap(list)]) + "\n"
	}
	return text
}

// elsewhere returns equal arguments in other memory, without unused capacity.
func (c predictorCall) elsewhere() predictorCall {
	for _, list := range []*[]float32{&c.p.Steps, &c.q.Steps, &c.a, &c.b, &c.ladder, &c.ladder2} {
		again := make([]float32, len(*list))
		copy(again, *list)
		*list = again
	}
	return c
}

func (c predictorCall) twice(t *testing.T) {
	t.Helper()
	before := c.argumentsText()
	one := c.ofPredictors(t) + c.ofSounds(t)
	two := c.ofPredictors(t) + c.ofSounds(t)
	other := c.elsewhere()
	if three := other.ofPredictors(t) + other.ofSounds(t); one != two || one != three {
		t.Errorf("%v: got %s, then %s, and then %s", c, one, two, three)
	}
	if after := c.argumentsText(); after != before {
		t.Errorf("%v: the arguments %s became %s", c, before, after)
	}
}

func roomyPredictor(p impl.Predictor) impl.Predictor {
	p.Steps = roomy(p.Steps...)
	return p
}

func TestPredictorsAreNotModifiedAndToldTwiceTheSame(t *testing.T) {
	for i, p := range goodPredictors() {
		for j, ladder := range goodLadders() {
			c := predictorCall{p: roomyPredictor(p), q: roomyPredictor(goodPredictors()[j%len(goodPredictors())]), x: 0.75, n: int64(1 + j%8), m: int64(i % 5), ladder: roomy(ladder...), ladder2: roomy(repeat(float32(0.125), len(ladder))...)}
			c.a, c.b = roomy(1, -2, 3, 0.5, -0.25, 0.125, 7, 8), roomy(4, 1, -0.5, 0.25, 0.125)
			c.twice(t)
		}
	}
}

func TestPredictorsOfAnyArgumentsReturn(t *testing.T) {
	counts := []int64{0, 1, -1, 2, 3, 15, 16, 17, 255, 256, 257, math.MaxInt64, math.MinInt64, 1 << 32, 1<<32 + 3}
	lists := append(badSounds(), nil, []float32{}, []float32{0}, []float32{most, -most}, []float32{least, minus0}, []float32{4, 2, 1}, []float32{1, 1, 1}, repeat(most, 256), repeat(float32(-1), 255), repeat(float32(0.5), 128), append([]float32{2}, repeat(float32(0.25), 16)...))
	numbers := edges()
	predictors, ladders := append(badPredictors(), goodPredictors()...), append(badLadders(), goodLadders()...)
	for i := range 150 {
		for j, x := range numbers {
			k := 7*i + 3*j
			y, z := numbers[(i+3*j)%len(numbers)], numbers[(5*i+j)%len(numbers)]
			c := predictorCall{p: predictors[i%len(predictors)], q: predictors[k%len(predictors)], x: x, n: counts[(i+j)%len(counts)], m: counts[(i+2*j+1)%len(counts)]}
			c.a, c.b, c.ladder, c.ladder2 = lists[k%len(lists)], lists[(i+2*j)%len(lists)], ladders[i%len(ladders)], ladders[k%len(ladders)]
			c.twice(t)
			c.p, c.q, c.a, c.b = impl.Predictor{Steps: []float32{x, y, z}, Gain: y}, impl.Predictor{Steps: []float32{z}, Gain: x}, []float32{x, y, z}, []float32{z, x, y}
			c.ladder, c.ladder2, c.n, c.m = []float32{x, y}, []float32{y, z}, 3, 2
			c.twice(t)
		}
	}
}

func TestPredictorsThatAreReturnedAreNew(t *testing.T) {
	for _, list := range [][]float32{{0.5, -0.25}, {0.125}, {}, repeat(float32(0), 16)} {
		c := predictorCall{p: roomyPredictor(predictorOf(1, list...)), a: roomy(list...), b: roomy(list...), ladder: roomy(list...)}
		before := c.argumentsText()
		results := 0
		add := func(got []float32, ok bool) {
			spoil(got)
			if ok {
				results++
			}
			if after := c.argumentsText(); after != before {
				t.Errorf("%v: with another result, the arguments %s became %s", list, before, after)
			}
		}
		addPredictor := func(p impl.Predictor, ok bool) {
			add(p.Steps, ok)
		}
		addPredictor(impl.StepUp(c.ladder, 1))
		addPredictor(impl.DampPredictor(c.p, 1))
		add(impl.StepDown(c.p))
		add(impl.MixLadders(c.ladder, c.ladder, 0))
		add(impl.ResidueOf(c.p, c.a))
		add(impl.MakeAgain(c.p, c.a))
		add(impl.DrivePredictor(c.p, c.a))
		add(impl.LadderResidue(c.ladder, c.a))
		add(impl.AddSounds(c.a, nil))
		add(impl.AddSounds(nil, c.a))
		add(impl.ScaleSound(c.a, 1))
		add(impl.FadeEnds(c.a, 0, 0))
		add(impl.JoinSounds(c.a, nil, 0))
		add(impl.JoinSounds(nil, c.a, 0))
		add(impl.JoinSounds(c.a, c.b, 0))
		add(impl.JoinSounds(c.a, c.b, int64(len(list))))
		if want := 16; len(list) > 0 && results != want {
			t.Errorf("%v: %d functions did not fail, want %d", list, results, want)
		}
	}
}

// What a ladder keeps of a sound does not go on in the next call.
func TestLaddersDoNotKnowOfOtherSounds(t *testing.T) {
	ladder, sound := []float32{0.5, -0.25, 0.75}, []float32{1, -2, 3, 0.5}
	want, _ := impl.LadderResidue(ladder, sound)
	for _, other := range [][]float32{{5, 7, -9}, {most, most, most}, nil} {
		impl.LadderResidue(ladder, other)
		got, ok := impl.LadderResidue(ladder, sound)
		wantNumbers(t, fmt.Sprint("LadderResidue behind that of ", other), got, ok, bitsText(want))
	}
}
