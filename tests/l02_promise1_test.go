package tests

import (
	"fmt"
	"math"
	"testing"

	"loop.example/g01279/impl"
)

// tubeCall has arguments of all functions of chapter 2.
type tubeCall struct {
	a, b    impl.Tube
	v, w    impl.Waves
	x, y, z float32
	n, m    int64
	list    []float32
}

// outcome tells the results of a function, and checks that they are zero values if it has failed.
func outcome(t *testing.T, name string, ok bool, results ...string) string {
	t.Helper()
	text := fmt.Sprint(name, results, ok, "\n")
	for _, s := range results {
		if !ok && s != "" && s != "0" && s != "00000000" && s != "/" && s != tubeText(impl.Tube{}) {
			t.Errorf("%s failed, and returned %s", name, s)
		}
	}
	return text
}

func oneText(x float32) string {
	return bitsText([]float32{x})
}

// ofTubes calls all functions that return tubes or numbers of tubes, and tells all results in a text.
func (c tubeCall) ofTubes(t *testing.T) string {
	t.Helper()
	text := fmt.Sprint(impl.ValidTube(c.a), impl.SameTube(c.a, c.b), impl.AreWaves(c.a, c.v), impl.SameWaves(c.v, c.w))
	tell := func(name string, tube impl.Tube, ok bool) {
		t.Helper()
		text += outcome(t, name, ok, tubeText(tube))
		if ok && !impl.ValidTube(tube) {
			t.Errorf("%s: %v is not valid", name, tube)
		}
	}
	tube, ok := impl.EvenTube(c.n, c.x)
	tell("EvenTube", tube, ok)
	tube, ok = impl.HornTube(c.n, c.x, c.y)
	tell("HornTube", tube, ok)
	tube, ok = impl.SetEnds(c.a, c.x, c.y, c.z)
	tell("SetEnds", tube, ok)
	tube, ok = impl.MixTubes(c.a, c.b, c.x)
	tell("MixTubes", tube, ok)
	tube, ok = impl.ScaleTube(c.a, c.x)
	tell("ScaleTube", tube, ok)
	tube, ok = impl.BackTube(c.a)
	tell("BackTube", tube, ok)
	tube, ok = impl.JoinTubes(c.a, c.b)
	tell("JoinTubes", tube, ok)
	tube, ok = impl.PinchTube(c.a, c.m, c.x)
	tell("PinchTube", tube, ok)
	volume, ok := impl.VolumeOf(c.a)
	text += outcome(t, "VolumeOf", ok, oneText(volume))
	at, area, ok := impl.NarrowestOf(c.a)
	text += outcome(t, "NarrowestOf", ok, fmt.Sprint(at), oneText(area))
	list, ok := impl.ReflectionsOf(c.a)
	text += outcome(t, "ReflectionsOf", ok, bitsText(list))
	list, ok = impl.AreasFrom(c.list, c.x)
	return text + outcome(t, "AreasFrom", ok, bitsText(list))
}

// ofWaves calls all functions of waves and answers, and tells all results in a text.
func (c tubeCall) ofWaves(t *testing.T) string {
	t.Helper()
	text := ""
	tell := func(name string, w impl.Waves, ok bool, results ...string) {
		t.Helper()
		text += outcome(t, name, ok, append(results, wavesText(w))...)
		if ok && !impl.AreWaves(c.a, w) {
			t.Errorf("%s: %v are no waves of %v", name, w, c.a)
		}
	}
	w, ok := impl.StillWaves(c.a)
	tell("StillWaves", w, ok)
	w, ok = impl.AddWaves(c.a, c.v, c.w)
	tell("AddWaves", w, ok)
	w, out, ok := impl.StepWaves(c.a, c.v, c.x)
	tell("StepWaves", w, ok, oneText(out))
	w, all, ok := impl.RunWaves(c.a, c.v, c.list)
	tell("RunWaves", w, ok, bitsText(all))
	energy, ok := impl.EnergyOfWaves(c.a, c.v)
	text += outcome(t, "EnergyOfWaves", ok, oneText(energy))
	answer, ok := impl.ResponseOf(c.a, c.x)
	text += outcome(t, "ResponseOf", ok, oneText(real(answer)), oneText(imag(answer)))
	list, ok := impl.ResponsesOf(c.a, c.n)
	text += outcome(t, "ResponsesOf", ok, bitsText(list))
	peaks, ok := impl.PeaksOf(c.list)
	text += outcome(t, "PeaksOf", ok, fmt.Sprint(peaks)[1:len(fmt.Sprint(peaks))-1])
	list, ok = impl.FormantsOf(c.a, c.n, c.m)
	return text + outcome(t, "FormantsOf", ok, bitsText(list))
}

// argumentsText tells all arguments, with the unused capacity of the lists.
func (c tubeCall) argumentsText() string {
	text := ""
	for _, list := range [][]float32{c.a.Areas, c.b.Areas, c.v.Right, c.v.Left, c.w.Right, c.w.Left, c.list} {
		text += bitsText(list[:cap(list)]) + "\n"
	}
	return text
}

func (c tubeCall) twice(t *testing.T) {
	t.Helper()
	before := c.argumentsText()
	one := c.ofTubes(t) + c.ofWaves(t)
	two := c.ofTubes(t) + c.ofWaves(t)
	if one != two {
		t.Errorf("%v: got %s and then %s", c, one, two)
	}
	if after := c.argumentsText(); after != before {
		t.Errorf("%v: the arguments %s became %s", c, before, after)
	}
}

// roomy returns a list with unused capacity, in which there are other numbers.
func roomy(list ...float32) []float32 {
	return append(append(make([]float32, 0, len(list)+20), list...), repeat(float32(7), 20)...)[:len(list)]
}

func roomyTube(t impl.Tube) impl.Tube {
	t.Areas = roomy(t.Areas...)
	return t
}

func roomyWaves(w impl.Waves) impl.Waves {
	return impl.Waves{Right: roomy(w.Right...), Left: roomy(w.Left...)}
}

func TestTubesAreNotModifiedAndToldTwiceTheSame(t *testing.T) {
	for i, a := range goodTubes() {
		for _, b := range goodTubes() {
			n := len(a.Areas)
			c := tubeCall{a: roomyTube(a), b: roomyTube(b), v: roomyWaves(wavesOf(a, 1, -2)), w: roomyWaves(wavesOf(a, 0.5, 3)), x: 0.5, y: 0.25, z: -1, n: int64(i), m: int64(n - 1)}
			for k := range n {
				c.v.Right[k] += float32(k)
			}
			c.list = roomy(0.5, -0.25, 0.1)
			c.twice(t)
		}
	}
}

func TestTubesOfAnyArgumentsReturn(t *testing.T) {
	counts := []int64{0, 1, -1, 2, 3, 15, 16, 17, 256, 257, math.MaxInt64, math.MinInt64, 1 << 32, 1<<32 + 3}
	numbers := edges()
	tubes := append(badTubes(), goodTubes()...)
	tubes = append(tubes, notTheSame()...)
	for i, a := range tubes {
		for j, x := range numbers {
			b, y, z := tubes[(i+j)%len(tubes)], numbers[(i+3*j)%len(numbers)], numbers[(5*i+j)%len(numbers)]
			c := tubeCall{a: a, b: b, v: wavesOf(a, y, z), w: wavesOf(b, z, x), x: x, y: y, z: z, n: counts[(i+j)%len(counts)], m: counts[(i+2*j+1)%len(counts)], list: []float32{x, y, z}}
			if j%3 == 1 {
				c.list = repeat(y, []int{0, 14, 15, 16, 255, 256, 257, 1000}[i%8])
			}
			if j%5 == 1 {
				c.v = badWaves()[i%len(badWaves())]
			}
			c.twice(t)
		}
	}
}

// spoil makes all numbers of lists 9, with those in the unused capacity.
func spoil(lists ...[]float32) {
	for _, list := range lists {
		for k := range list[:cap(list)] {
			list[:cap(list)][k] = 9
		}
	}
}

func TestTubesThatAreReturnedAreNew(t *testing.T) {
	for _, a := range goodTubes() {
		c := tubeCall{a: roomyTube(a), b: roomyTube(quietTube(4)), v: roomyWaves(wavesOf(a, 1, 2)), w: roomyWaves(wavesOf(a, 3, 4)), list: roomy(0.5)}
		before := c.argumentsText()
		results := []impl.Tube{}
		add := func(tube impl.Tube, _ bool) {
			results = append(results, tube)
		}
		add(impl.SetEnds(c.a, 0.5, 0, 0))
		add(impl.MixTubes(c.a, c.a, 0))
		add(impl.ScaleTube(c.a, 1))
		add(impl.BackTube(c.a))
		add(impl.JoinTubes(c.a, c.b))
		add(impl.PinchTube(c.a, 0, 1))
		for _, tube := range results {
			spoil(tube.Areas)
		}
		reflections, _ := impl.ReflectionsOf(c.a)
		areas, _ := impl.AreasFrom(nil, 1)
		spoil(reflections, areas)
		if after := c.argumentsText(); after != before {
			t.Errorf("%v: with other results, the arguments %s became %s", c, before, after)
		}
	}
}

func TestWavesThatAreReturnedAreNew(t *testing.T) {
	for _, a := range goodTubes() {
		c := tubeCall{a: roomyTube(a), v: roomyWaves(wavesOf(a, 1, 2)), w: roomyWaves(wavesOf(a, 3, 4)), list: roomy(0, 0)}
		before := c.argumentsText()
		results := []impl.Waves{}
		add := func(w impl.Waves, ok bool) {
			if ok {
				results = append(results, w)
			}
		}
		addRun := func(w impl.Waves, out []float32, ok bool) {
			add(w, ok)
			left := wavesText(w)
			spoil(out)
			if wavesText(w) != left {
				t.Errorf("RunWaves %v: what comes out shares memory with the waves", a)
			}
		}
		add(impl.StillWaves(c.a))
		add(impl.AddWaves(c.a, c.v, c.w))
		addRun(impl.RunWaves(c.a, c.v, nil))
		addRun(impl.RunWaves(c.a, c.v, c.list))
		next, _, ok := impl.StepWaves(c.a, c.v, 0)
		add(next, ok)
		if len(results) != 5 {
			t.Errorf("%v: only %d functions did not fail", a, len(results))
		}
		for _, w := range results {
			left := bitsText(w.Left)
			spoil(w.Right)
			if bitsText(w.Left) != left {
				t.Errorf("%v: both lists of waves share memory", a)
			}
			spoil(w.Left)
		}
		if after := c.argumentsText(); after != before {
			t.Errorf("%v: with other results, the arguments %s became %s", c, before, after)
		}
	}
}
