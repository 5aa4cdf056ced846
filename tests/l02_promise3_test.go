package tests

import (
	"fmt"
	"math"
	"math/cmplx"
	"testing"

	"loop.example/g01279/impl"
)

// plainAreas are areas of tubes of several lengths.
func plainAreas() [][]float32 {
	return [][]float32{{1}, {5}, {1, 3}, {3, 1}, {2, 2, 2}, {1, 4, 2, 0.5, 3}, {0.3, 0.6, 1.2, 2.4, 4.8, 2, 1, 3}, {1, 2, 3, 4, 5, 6, 7, 8, 7, 6, 5, 4, 3, 2, 1, 2}}
}

// someWaves returns waves that are all different.
func someWaves(t impl.Tube) impl.Waves {
	w := wavesOf(t, 0, 0)
	for k := range t.Areas {
		w.Right[k] = float32(math.Sin(float64(3*k + 1)))
		w.Left[k] = float32(math.Cos(float64(5*k + 2)))
	}
	return w
}

func TestClosedTubesKeepTheirEnergy(t *testing.T) {
	for _, areas := range plainAreas() {
		for _, ends := range [][2]float32{{1, 1}, {1, -1}, {-1, 1}, {-1, -1}} {
			tube := tubeOf(1, ends[0], ends[1], areas...)
			now := someWaves(tube)
			first, _ := impl.EnergyOfWaves(tube, now)
			for k := range 300 {
				now, _, _ = impl.StepWaves(tube, now, 0)
				energy, ok := impl.EnergyOfWaves(tube, now)
				if !ok || math.Abs(float64(energy/first)-1) > 1e-4 {
					t.Fatalf("%v: behind %d ticks, the energy %v is %v %v", tube, k+1, first, energy, ok)
				}
			}
		}
	}
}

func TestOtherTubesLoseEnergy(t *testing.T) {
	for _, areas := range plainAreas() {
		for _, tube := range []impl.Tube{tubeOf(0.99, 1, 1, areas...), tubeOf(1, 0.5, 1, areas...), tubeOf(1, 1, -0.5, areas...), tubeOf(1, 0, 0, areas...)} {
			w := someWaves(tube)
			first, _ := impl.EnergyOfWaves(tube, w)
			w, _, _ = impl.RunWaves(tube, w, repeat(float32(0), 200))
			energy, ok := impl.EnergyOfWaves(tube, w)
			if !ok || energy > first*0.9 {
				t.Errorf("%v: the energy %v becomes %v %v", tube, first, energy, ok)
			}
		}
	}
}

// answerTo returns what the answer of a tube to a single 1 tells of a turn.
func answerTo(t *testing.T, tube impl.Tube, turn float64) complex128 {
	t.Helper()
	w, ok := impl.StillWaves(tube)
	answer := complex128(0)
	in := append([]float32{1}, repeat(float32(0), 255)...)
	for block := range 12 {
		var out []float32
		w, out, ok = impl.RunWaves(tube, w, in)
		if !ok {
			t.Fatalf("RunWaves %v failed", tube)
		}
		in[0] = 0
		for n, x := range out {
			answer += complex(float64(x), 0) * cmplx.Rect(1, -2*math.Pi*turn*float64(256*block+n))
		}
	}
	return answer
}

func TestTubesAnswerAsASingleOneTells(t *testing.T) {
	for _, areas := range plainAreas() {
		for _, tube := range []impl.Tube{tubeOf(1, 0.75, -0.875, areas...), tubeOf(0.95, 1, 1, areas...), tubeOf(0.9, -1, 1, areas...), tubeOf(1, 0, 0, areas...), tubeOf(0.97, -0.5, 0, areas...), tubeOf(0.9, 1, -1, areas...)} {
			for _, turn := range []float32{0, 0.1, 0.25, 0.33, 0.5, -0.2, 1.3} {
				want := answerTo(t, tube, float64(turn))
				got, ok := impl.ResponseOf(tube, turn)
				if !ok || cmplx.Abs(complex128(got)-want) > 1e-3*(1+cmplx.Abs(want)) {
					t.Errorf("%s: got %v %v, want %v", fmt.Sprint("ResponseOf ", tube, turn), got, ok, want)
				}
			}
		}
	}
}

// Waves are added: what comes out for two inputs is the sum of what comes out for each.
func TestWavesAreAdded(t *testing.T) {
	for _, areas := range plainAreas() {
		tube := tubeOf(0.9, 0.75, -0.5, areas...)
		a := someWaves(tube)
		b := wavesOf(tube, 0.5, -0.25)
		sum, _ := impl.AddWaves(tube, a, b)
		_, x, _ := impl.RunWaves(tube, a, repeat(float32(1), 50))
		_, y, _ := impl.RunWaves(tube, b, repeat(float32(2), 50))
		_, both, ok := impl.RunWaves(tube, sum, repeat(float32(3), 50))
		for k := range both {
			if !ok || math.Abs(float64(both[k]-x[k]-y[k])) > 1e-4 {
				t.Fatalf("%v: at %d, %v and %v make %v %v", tube, k, x[k], y[k], both[k], ok)
			}
		}
	}
}
