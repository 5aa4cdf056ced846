package tests

import (
	"fmt"
	"math"
	"math/cmplx"
	"math/rand"
	"testing"

	"loop.example/g01279/impl"
)

// randomLadder returns a ladder of numbers that are nearer to 0 than reach.
func randomLadder(r *rand.Rand, count int, reach float64) []float32 {
	ladder := make([]float32, count)
	for k := range ladder {
		ladder[k] = float32((2*r.Float64() - 1) * reach)
	}
	return ladder
}

// randomSound returns a sound of numbers from -1 to 1, of which neighbours are alike.
func randomSound(r *rand.Rand, count int) []float32 {
	sound := make([]float32, count)
	last := 0.0
	for k := range sound {
		last = 0.7*last + 0.3*(2*r.Float64()-1)
		sound[k] = float32(last)
	}
	return sound
}

func wantNear(t *testing.T, what string, got []float32, ok bool, want []float32, far float64) {
	t.Helper()
	if !ok || len(got) != len(want) {
		t.Fatalf("%s: got %v %v, want %v, nearly", what, got, ok, want)
	}
	for k := range got {
		if !(math.Abs(float64(got[k])-float64(want[k])) <= far) {
			t.Errorf("%s: at %d, got %v, want %v, nearly", what, k, got[k], want[k])
		}
	}
}

func TestLaddersAndPredictorsAreTurnedIntoOneAnother(t *testing.T) {
	r := rand.New(rand.NewSource(1))
	for round := range 400 {
		count := 1 + round%16
		// Longer ladders are nearer to 0, so that rounding does not grow too much on the way back.
		ladder := randomLadder(r, count, 0.9/math.Sqrt(float64(count)))
		p, ok := impl.StepUp(ladder, 2)
		if !ok || p.Gain != 2 || len(p.Steps) != count || p.Steps[count-1] != ladder[count-1] {
			t.Fatalf("StepUp %v: got %v %v", ladder, p, ok)
		}
		down, ok := impl.StepDown(p)
		wantNear(t, fmt.Sprint("StepDown of StepUp ", ladder), down, ok, ladder, 1e-4)
		up, ok := impl.StepUp(down, 2)
		wantNear(t, fmt.Sprint("StepUp of StepDown ", p), up.Steps, ok, p.Steps, 1e-4)
	}
}

func TestLagsTellLaddersAndPredictors(t *testing.T) {
	r := rand.New(rand.NewSource(2))
	for round := range 300 {
		order := 1 + round%16
		sound := randomSound(r, 60+round%190)
		lags, _ := impl.LagsOf(sound, int64(order))
		ladder, okLadder := impl.LadderOf(lags)
		p, ok := impl.PredictorOf(lags)
		if !okLadder || !ok || len(ladder) != order || len(p.Steps) != order {
			t.Fatalf("of the lags %v: got %v %v and %v %v", lags, ladder, okLadder, p, ok)
		}
		up, ok := impl.StepUp(ladder, p.Gain)
		wantNear(t, fmt.Sprint("StepUp of LadderOf ", lags), up.Steps, ok, p.Steps, 1e-4)
		down, ok := impl.StepDown(p)
		wantNear(t, fmt.Sprint("StepDown of PredictorOf ", lags), down, ok, ladder, 1e-4)
		wantEquations(t, lags, p)
		// A ladder of fewer lags is the first part.
		fewer, ok := impl.LadderOf(lags[:2+order/2])
		wantNumbers(t, fmt.Sprint("LadderOf some of ", lags), fewer, ok, bitsText(ladder[:len(fewer)]))
	}
}

// wantEquations checks that no other steps would leave less of a sound with these lags, and that Gain tells how much they leave.
func wantEquations(t *testing.T, lags []float32, p impl.Predictor) {
	t.Helper()
	for i := range p.Steps {
		left := float64(lags[i+1])
		for k, step := range p.Steps {
			left -= float64(step) * float64(lags[max(i-k, k-i)])
		}
		if math.Abs(left) > 1e-4*float64(lags[0]) {
			t.Errorf("PredictorOf %v: the steps %v leave %v at %d", lags, p.Steps, left, i)
		}
	}
	energy := float64(lags[0])
	for k, step := range p.Steps {
		energy -= float64(step) * float64(lags[k+1])
	}
	if gain := float64(p.Gain); math.Abs(gain*gain-energy) > 1e-4*float64(lags[0]) {
		t.Errorf("PredictorOf %v: the Gain %v, want the root of %v, nearly", lags, gain, energy)
	}
}

func TestWhatIsLeftMakesTheSameSoundAgain(t *testing.T) {
	r := rand.New(rand.NewSource(3))
	for round := range 300 {
		count := 1 + round%16
		p, _ := impl.StepUp(randomLadder(r, count, 1/math.Sqrt(float64(count))*0.8), 1)
		sound := randomSound(r, r.Intn(257))
		residue, ok := impl.ResidueOf(p, sound)
		if !ok {
			t.Fatalf("ResidueOf %v %v failed", p, sound)
		}
		again, ok := impl.MakeAgain(p, residue)
		wantNear(t, fmt.Sprint("MakeAgain of ResidueOf with ", p), again, ok, sound, 1e-4)
		driven, ok := impl.DrivePredictor(p, residue)
		wantNumbers(t, fmt.Sprint("DrivePredictor with the Gain 1 and ", p), driven, ok, bitsText(again))
		back, ok := impl.ResidueOf(p, again)
		wantNear(t, fmt.Sprint("ResidueOf of MakeAgain with ", p), back, ok, residue, 1e-4)
	}
}

func TestLaddersLeaveWhatPredictorsLeave(t *testing.T) {
	r := rand.New(rand.NewSource(4))
	for round := range 300 {
		count := 1 + round%16
		ladder := randomLadder(r, count, 0.9)
		p, _ := impl.StepUp(ladder, 1)
		sound := randomSound(r, r.Intn(257))
		want, _ := impl.ResidueOf(p, sound)
		got, ok := impl.LadderResidue(ladder, sound)
		reach, _ := impl.ReachOfSound(p.Steps)
		wantNear(t, fmt.Sprint("LadderResidue ", ladder), got, ok, want, 1e-4*float64(1+reach))
	}
}

func TestResiduesAreThoseOfPredictAt(t *testing.T) {
	r := rand.New(rand.NewSource(5))
	for round := range 60 {
		p, _ := impl.StepUp(randomLadder(r, 1+round%16, 0.9), 1)
		sound := randomSound(r, 40)
		residue, _ := impl.ResidueOf(p, sound)
		again, _ := impl.MakeAgain(p, sound)
		for n := range sound {
			at, ok := impl.PredictAt(p, sound, int64(n))
			wantSum(t, fmt.Sprint("ResidueOf ", p, " at ", n), residue[n], ok, sound[n]-at)
			at, ok = impl.PredictAt(p, again, int64(n))
			wantSum(t, fmt.Sprint("MakeAgain ", p, " at ", n), again[n], ok, sound[n]+at)
		}
	}
}

func TestPredictorsOfASoundPredictIt(t *testing.T) {
	r := rand.New(rand.NewSource(6))
	for round := range 100 {
		sound := randomSound(r, 100+round)
		lags, _ := impl.LagsOf(sound, int64(1+round%16))
		p, _ := impl.PredictorOf(lags)
		gain, ok := impl.PredictionGain(p, sound)
		// What is left behind the end of the sound counts for the lags, but not for the residue.
		if least := lags[0] / (p.Gain * p.Gain); !ok || gain < least*0.999 || gain < 1.2 {
			t.Errorf("PredictionGain with %v: got %v %v, want at least %v", p, gain, ok, least)
		}
		energy, ok := impl.EnergyOfSound(sound)
		wantSum(t, "EnergyOfSound as the lag 0", energy, ok, lags[0])
	}
}

func TestResponsesAreThoseToASingleOne(t *testing.T) {
	r := rand.New(rand.NewSource(7))
	for round := range 100 {
		count := 1 + round%8
		p, _ := impl.StepUp(randomLadder(r, count, 0.9), 1.5)
		// So it does not ring for longer than a sound.
		p, _ = impl.DampPredictor(p, 0.9)
		sound, ok := impl.DrivePredictor(p, append([]float32{1}, repeat(float32(0), 255)...))
		turn := r.Float64()*2 - 1
		want := complex128(0)
		for n, x := range sound {
			want += complex(float64(x), 0) * cmplx.Exp(complex(0, -2*math.Pi*turn*float64(n)))
		}
		got, okToo := impl.PredictorResponse(p, float32(turn))
		if !ok || !okToo || cmplx.Abs(complex128(got)-want) > 1e-3*(1+cmplx.Abs(want)) {
			t.Errorf("PredictorResponse %v %v: got %v %v, want %v, nearly", p, turn, got, okToo, want)
		}
	}
}

func TestAreasReflectAsTheLadderSays(t *testing.T) {
	r := rand.New(rand.NewSource(8))
	for round := range 100 {
		ladder := randomLadder(r, 1+round%15, 0.5)
		p, _ := impl.StepUp(ladder, 1)
		areas, ok := impl.AreasOfPredictor(p, 2)
		if !ok || len(areas) != len(ladder)+1 || areas[0] != 2 {
			t.Fatalf("AreasOfPredictor %v: got %v %v", p, areas, ok)
		}
		reflections, ok := impl.ReflectionsOf(quietTube(areas...))
		wantNear(t, fmt.Sprint("ReflectionsOf the areas of ", ladder), reflections, ok, ladder, 1e-3)
	}
}

func TestDampedPredictorsRingLess(t *testing.T) {
	r := rand.New(rand.NewSource(9))
	for round := range 60 {
		p, _ := impl.StepUp(randomLadder(r, 1+round%6, 0.8), 1)
		damped, _ := impl.DampPredictor(p, 0.75)
		in := append([]float32{1}, repeat(float32(0), 99)...)
		sound, _ := impl.DrivePredictor(p, in)
		want := make([]float32, len(sound))
		for n, x := range sound {
			want[n] = float32(float64(x) * math.Pow(0.75, float64(n)))
		}
		got, ok := impl.DrivePredictor(damped, in)
		wantNear(t, fmt.Sprint("DrivePredictor with the damped ", p), got, ok, want, 1e-4)
	}
}

func TestMixedLaddersLieBetween(t *testing.T) {
	r := rand.New(rand.NewSource(10))
	for round := range 200 {
		count := 1 + round%16
		a, b := randomLadder(r, count, 0.99), randomLadder(r, count, 0.99)
		share := r.Float64()
		want := make([]float32, count)
		for k := range want {
			want[k] = float32(float64(a[k])*(1-share) + float64(b[k])*share)
		}
		got, ok := impl.MixLadders(a, b, float32(share))
		wantNear(t, fmt.Sprint("MixLadders ", a, b, share), got, ok, want, 1e-6)
	}
}
