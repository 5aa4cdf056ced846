package tests

import (
	"math"
	"strings"
	"testing"

	"loop.example/g01279/impl"
)

func predictorOf(gain float32, steps ...float32) impl.Predictor {
	return impl.Predictor{Steps: steps, Gain: gain}
}

// toldPredictor returns the predictor told by the bits of its steps, a semicolon, and those of its gain.
func toldPredictor(s string) impl.Predictor {
	parts := strings.Split(s, ";")
	return predictorOf(toldNumber(parts[1]), told(parts[0])...)
}

// predictorText tells a predictor as toldPredictor reads it.
func predictorText(p impl.Predictor) string {
	return bitsText(p.Steps) + ";" + bitsText([]float32{p.Gain})
}

func wantPredictor(t *testing.T, what string, got impl.Predictor, ok bool, want string) {
	t.Helper()
	if !ok || predictorText(got) != want {
		t.Errorf("%s: got %s (%v) %v, want %s", what, predictorText(got), got, ok, want)
	}
}

func wantNoPredictor(t *testing.T, what string, got impl.Predictor, ok bool) {
	t.Helper()
	if ok || predictorText(got) != predictorText(impl.Predictor{}) {
		t.Errorf("%s: got %v %v, want it to fail", what, got, ok)
	}
}

// goodPredictors are predictors that are valid, most of them at limits.
func goodPredictors() []impl.Predictor {
	return []impl.Predictor{
		predictorOf(2, 0.5), predictorOf(0, 1), predictorOf(minus0, minus0), predictorOf(least, least, -least), predictorOf(most, most), predictorOf(1, -math.MaxFloat32, 0.25),
		predictorOf(1, 1.5, -0.75), predictorOf(0.5, repeat(float32(0.125), 15)...), predictorOf(0.5, repeat(float32(-0.25), 16)...), predictorOf(1, repeat(float32(0), 16)...),
		predictorOf(1, repeat(most, 16)...), predictorOf(1, -3, 2, 0.125, -0.5),
	}
}

// badPredictors are predictors that are not valid for one reason each.
func badPredictors() []impl.Predictor {
	list := []impl.Predictor{{}, predictorOf(1), predictorOf(1, repeat(float32(0), 17)...), predictorOf(1, repeat(float32(0), 300)...)}
	for _, x := range badNumbers() {
		list = append(list, predictorOf(1, x), predictorOf(1, x, 0, 0), predictorOf(1, 0, x, 0), predictorOf(1, 0, 0, x), predictorOf(1, append(repeat(float32(0), 15), x)...), predictorOf(x, 0))
	}
	for _, gain := range []float32{-least, -1, -most} {
		list = append(list, predictorOf(gain, 0), predictorOf(gain, 0, 0))
	}
	return list
}

// goodLadders are ladders, most of them at limits.
func goodLadders() [][]float32 {
	return [][]float32{{0}, {minus0}, {0.5}, {belowOne}, {-belowOne}, {least, -least}, {0.5, 0.5}, {-0.25, 0.75, 0.5}, {belowOne, -belowOne, 0}, repeat(float32(0.25), 15), repeat(float32(-0.25), 16), repeat(belowOne, 16)}
}

// badLadders are lists that are no ladders for one reason each.
func badLadders() [][]float32 {
	list := [][]float32{nil, {}, repeat(float32(0), 17), repeat(float32(0.5), 300)}
	for _, x := range append(badNumbers(), 1, -1, aboveOne, -aboveOne, 2, -2, most, -most) {
		list = append(list, []float32{x}, []float32{x, 0, 0}, []float32{0, x, 0}, []float32{0, 0, x}, append(repeat(float32(0), 15), x))
	}
	return list
}

// badShares are those that are not from 0 to 1.
func badShares() []float32 {
	return append(badNumbers(), -least, -0.5, -1, aboveOne, 2, most, -most)
}

// manySteps are the steps of a ladder of 16 numbers.
func manySteps(t *testing.T, r float32) []float32 {
	t.Helper()
	p, ok := impl.StepUp(repeat(r, 16), 1)
	if !ok || len(p.Steps) != 16 {
		t.Fatalf("StepUp of 16 times %v: got %v %v", r, p, ok)
	}
	return p.Steps
}
