package tests

import (
	"fmt"
	"math"
	"testing"

	"loop.example/g01279/impl"
)

// plainThroats are throats that do not tremble.
func plainThroats() []impl.Throat {
	return []impl.Throat{
		quietThroat(2, 0.5, 0.5), quietThroat(1000, 0.5, 0.25), quietThroat(4, 0.5, 0.5), quietThroat(7.3, 0.4, 0.3), quietThroat(100, 0.6, 0.4), quietThroat(33.3, 0.25, 0.5), quietThroat(12.7, 0.7, 0.2), quietThroat(256, 0.3, 0.6),
	}
}

func TestVoicesThatDoNotTrembleMakeTheFlow(t *testing.T) {
	for _, throat := range plainThroats() {
		flow, _ := impl.FlowOfThroat(throat, 256)
		for _, seed := range []int64{0, 1, mostSeed} {
			v, _ := impl.NewVoice(throat, seed)
			last, all, ok := impl.RunVoice(throat, v, 256)
			if !ok || len(all) != 256 || len(flow) != 256 || last.Now != throat.Period {
				t.Fatalf("%v: got %v %v %v for %v", throat, last, all, ok, flow)
			}
			for k := range all {
				if math.Abs(float64(all[k]-flow[k])) > 1e-3 {
					t.Errorf("%v: at the tick %d, %v comes out of the flow %v", throat, k, all[k], flow[k])
				}
			}
		}
	}
}

func TestBreathIsAPartOfTheFlow(t *testing.T) {
	for _, throat := range plainThroats() {
		flow, _ := impl.FlowOfThroat(throat, 256)
		throat.Breath = 0.25
		v, _ := impl.NewVoice(throat, 5)
		_, all, ok := impl.RunVoice(throat, v, 256)
		moved := 0
		for k := range all {
			far := math.Abs(float64(all[k] - flow[k]))
			if !ok || far > 0.25*float64(flow[k])+1e-3 {
				t.Errorf("%v: at the tick %d, %v comes out of the flow %v", throat, k, all[k], flow[k])
			}
			if far > 1e-2 {
				moved++
			}
		}
		if moved < 20 {
			t.Errorf("%v: the breath moves only %d of 256 numbers", throat, moved)
		}
	}
}

func TestPeriodsShake(t *testing.T) {
	for _, shake := range []float32{0, 0.125, 0.5} {
		for _, period := range []float32{2, 5.3, 20, 1000} {
			throat := throatOf(period, 0.5, 0.5, 0, shake)
			v, _ := impl.NewVoice(throat, 11)
			different := map[float32]bool{}
			for range 3000 {
				next, _, ok := impl.StepVoice(throat, v)
				if !ok || next.Now < period*(1-shake) || next.Now > period*(1+shake) || next.Now < 1 {
					t.Fatalf("StepVoice %v %v: got %v %v", throat, v, next, ok)
				}
				if next.Phase > v.Phase && next.Now != v.Now {
					t.Fatalf("StepVoice %v %v: the period of %v is another one within a pulse", throat, v, next)
				}
				different[next.Now] = true
				v = next
			}
			if shake == 0 && len(different) != 1 || shake > 0 && period < 1000 && len(different) < 50 {
				t.Errorf("%v: there are %d periods", throat, len(different))
			}
		}
	}
}

func TestVoicesRunTickByTick(t *testing.T) {
	throats := append(plainThroats(), throatOf(2, 0.5, 0.5, 1, 0.5), throatOf(3.7, 0.4, 0.2, 0.5, 0.25), throatOf(1000, 0.001, 0.002, 2, 0.5), throatOf(9, 0.1, 0.8, most, 0.1))
	for _, throat := range throats {
		for _, v := range goodVoices() {
			last, all, _ := impl.RunVoice(throat, v, 100)
			now := v
			for k := range 100 {
				next, out, ok := impl.StepVoice(throat, now)
				if !ok || len(all) != 100 {
					t.Fatalf("StepVoice %v %v: got %v %v %v", throat, now, next, out, ok)
				}
				wantNumber(t, fmt.Sprint("RunVoice ", throat, v, " at ", k), all[k], out)
				now = next
			}
			wantVoice(t, fmt.Sprint("RunVoice ", throat, v), last, true, voiceText(now))
			middle, first, one := impl.RunVoice(throat, v, 37)
			end, second, two := impl.RunVoice(throat, middle, 63)
			wantVoice(t, fmt.Sprint("RunVoice in two parts ", throat, v), end, two, voiceText(last))
			wantNumbers(t, fmt.Sprint("RunVoice in two parts ", throat, v), append(first, second...), one, bitsText(all))
		}
	}
}

func TestMeanOfAThroat(t *testing.T) {
	for _, throat := range plainThroats() {
		// A half of the time that it opens, and 2 / pi of the time that it closes.
		want := float64(throat.Open)/2 + float64(throat.Close)*2/math.Pi
		got, ok := impl.MeanFlow(throat, 256)
		if !ok || math.Abs(float64(got)-want) > 1e-2 {
			t.Errorf("MeanFlow %v: got %v %v, want %v, nearly", throat, got, ok, want)
		}
	}
}

// The examples of the document, and what the texts say of rates and sounds.
func TestRatesAndSoundsAreNearly(t *testing.T) {
	for half := float32(-120); half <= 108; half += 0.75 {
		low, _ := impl.NoteRate(half)
		high, ok := impl.NoteRate(half + 12)
		if want := 440 * math.Pow(2, float64(half)/12); !ok || math.Abs(float64(low)/want-1) > 1e-5 || math.Abs(float64(high/low)-2) > 1e-5 {
			t.Errorf("NoteRate %v: got %v, and then %v, want %v, nearly", half, low, high, want)
		}
	}
	for _, c := range [][2]float32{{1, 2}, {440, 55}, {0.001, 1000}, {3, 3}} {
		rates, ok := impl.GlideOf(c[0], c[1], 20)
		for k, rate := range rates {
			want := float64(c[0]) * math.Pow(float64(c[1])/float64(c[0]), float64(k)/19)
			if !ok || math.Abs(float64(rate)/want-1) > 1e-5 {
				t.Errorf("GlideOf %v: at %d, got %v, want %v, nearly", c, k, rate, want)
			}
		}
	}
	tremble, ok := impl.TrembleOf(3, 0.5, 0.07, 100)
	for k, x := range tremble {
		want := 3 * (1 + 0.5*math.Sin(2*math.Pi*0.07*float64(k)))
		if !ok || math.Abs(float64(x)-want) > 1e-4 {
			t.Errorf("TrembleOf at %d: got %v, want %v, nearly", k, x, want)
		}
	}
	scaled, ok := impl.ScaleToPeak([]float32{0.3, -0.7, 0.1}, 5)
	_, peak, _ := impl.PeakOfSound(scaled)
	if !ok || math.Abs(float64(peak)-5) > 1e-5 {
		t.Errorf("ScaleToPeak to 5: got %v %v", scaled, ok)
	}
}
