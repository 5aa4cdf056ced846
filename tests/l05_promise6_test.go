package tests

import (
	"fmt"
	"math"
	"math/cmplx"
	"math/rand"
	"testing"

	"loop.example/g01279/impl"
)

func TestSpectraLeadBackToTheirSounds(t *testing.T) {
	r := rand.New(rand.NewSource(1))
	for count := 1; count <= 64; count++ {
		for range 5 {
			sound := randomSound(r, count)
			spectrum, ok := impl.SpectrumOf(sound, int64(count))
			if !ok || len(spectrum) != count {
				t.Fatalf("SpectrumOf %v: got %v %v", sound, spectrum, ok)
			}
			back, ok := impl.BackToSound(spectrum)
			wantNear(t, fmt.Sprint("BackToSound of SpectrumOf ", sound), back, ok, sound, 2e-6)
		}
		for at := range count {
			beat := make([]float32, count)
			beat[at] = 1
			spectrum, _ := impl.SpectrumOf(beat, int64(count))
			back, ok := impl.BackToSound(spectrum)
			wantNear(t, fmt.Sprint("BackToSound of SpectrumOf a beat at ", at, " of ", count), back, ok, beat, 2e-6)
		}
	}
}

// A sound that is shorter is followed by nothing, and one that is longer goes on from the beginning.
func TestSpectraOfSoundsOfOtherLengths(t *testing.T) {
	r := rand.New(rand.NewSource(2))
	for round := range 200 {
		count := 1 + round%64
		sound := randomSound(r, r.Intn(257))
		folded := make([]float32, count)
		for k, x := range sound {
			folded[k%count] += x
		}
		spectrum, _ := impl.SpectrumOf(sound, int64(count))
		back, ok := impl.BackToSound(spectrum)
		wantNear(t, fmt.Sprint("BackToSound of ", count, " numbers of ", sound), back, ok, folded, 1e-5)
	}
}

func TestSpectraAreSumsOfTurningNumbers(t *testing.T) {
	r := rand.New(rand.NewSource(3))
	for round := range 100 {
		count := 1 + r.Intn(64)
		sound := randomSound(r, r.Intn(100))
		spectrum, ok := impl.SpectrumOf(sound, int64(count))
		if !ok || len(spectrum) != count {
			t.Fatalf("SpectrumOf %v: got %v %v", sound, spectrum, ok)
		}
		for m, got := range spectrum {
			want := complex128(0)
			for k, x := range sound {
				want += cmplx.Rect(float64(x), -2*math.Pi*float64(m)*float64(k)/float64(count))
			}
			if cmplx.Abs(complex128(got)-want) > 1e-5 {
				t.Errorf("SpectrumOf in the round %d, at %d: got %v, want %v, nearly", round, m, got, want)
			}
		}
	}
}

func TestSpectraKeepTheirPowers(t *testing.T) {
	r := rand.New(rand.NewSource(4))
	for count := 1; count <= 64; count++ {
		sound := randomSound(r, count)
		spectrum, _ := impl.SpectrumOf(sound, int64(count))
		powers, ok := impl.PowersOfSpectrum(spectrum)
		if !ok {
			t.Fatalf("PowersOfSpectrum %v failed", spectrum)
		}
		all, ok := impl.BandsOf(powers, []int64{0, int64(count)})
		energy, _ := impl.EnergyOfSound(sound)
		wantNear(t, fmt.Sprint("the powers of ", sound), all, ok, []float32{energy * float32(count)}, 1e-4*float64(energy)*float64(count))
		// Sums of bands are parts of it.
		middle := int64(count / 3)
		parts, ok := impl.BandsOf(powers, []int64{0, middle, middle, int64(count)})
		if !ok || len(parts) != 3 || parts[1] != 0 || math.Abs(float64(parts[0]+parts[2]-all[0])) > 1e-4*float64(all[0]) {
			t.Errorf("BandsOf %v: got %v %v, want parts of %v", powers, parts, ok, all)
		}
	}
}

// A turning that fits has all its powers at one place and, backwards, at another one.
func TestCentreOfATurning(t *testing.T) {
	for turns := int64(1); turns < 32; turns++ {
		sound := make([]float32, 64)
		for k := range sound {
			sound[k] = float32(math.Cos(2 * math.Pi * float64(turns) * float64(k) / 64))
		}
		spectrum, _ := impl.SpectrumOf(sound, 64)
		powers, _ := impl.PowersOfSpectrum(spectrum)
		centre, ok := impl.CentreOfPowers(powers[:32])
		wantNear(t, fmt.Sprint("CentreOfPowers of ", turns), []float32{centre}, ok, []float32{float32(turns)}, 1e-3)
	}
}

func TestEqualBeatsHaveTheirDistanceAsPeriod(t *testing.T) {
	for distance := 1; distance <= 128; distance++ {
		for beats := 2; beats*distance <= 256; beats++ {
			// Heights with exact sums, since equal quotients must stay equal.
			for _, height := range []float32{1, -3, 0.625} {
				sound := make([]float32, beats*distance)
				for k := 0; k < len(sound); k += distance {
					sound[k] = height
				}
				last := int64(len(sound) - 1)
				where, sure, ok := impl.PeriodOfSound(sound, 1, last)
				if !ok || where != int64(distance) || math.Abs(float64(sure)-1) > 1e-6 {
					t.Errorf("PeriodOfSound of %d beats at the distance %d: got %d %v %v", beats, distance, where, sure, ok)
				}
				wantBool(t, fmt.Sprint("IsVoiced of beats at the distance ", distance), impl.IsVoiced(sound, 1, last, 0.999), true)
				if distance > 1 {
					wantBool(t, fmt.Sprint("IsVoiced of beats before the distance ", distance), impl.IsVoiced(sound, 1, int64(distance-1), 0.001), false)
				}
			}
		}
	}
}

// Also where the last distance is not whole, as long as no lag is twice the distance.
func TestEqualBeatsOfAnyLengths(t *testing.T) {
	for distance := 2; distance <= 60; distance++ {
		for length := distance + 1; length <= 256; length += 1 + distance/7 {
			for _, first := range []int{0, distance / 2, distance - 1} {
				sound := make([]float32, length)
				beats := 0
				for k := first; k < length; k += distance {
					sound[k] = 3
					beats++
				}
				most := min(2*distance, length) - 1
				where, sure, ok := impl.PeriodOfSound(sound, 1, int64(most))
				if beats >= 2 && (!ok || where != int64(distance) || sure < 0.5) {
					t.Errorf("PeriodOfSound of beats from %d on at the distance %d in %d: got %d %v %v", first, distance, length, where, sure, ok)
				}
			}
		}
	}
}

func TestPeriodsOfSwingsAndNoise(t *testing.T) {
	for period := 8; period <= 40; period++ {
		sound := make([]float32, 240)
		for k := range sound {
			sound[k] = float32(math.Sin(2 * math.Pi * float64(k) / float64(period)))
		}
		where, sure, ok := impl.PeriodOfSound(sound, int64(period*2/3), int64(period*4/3))
		if !ok || where < int64(period-1) || where > int64(period+1) || sure < 0.9 {
			t.Errorf("PeriodOfSound of a swing of %d: got %d %v %v", period, where, sure, ok)
		}
		crossings, ok := impl.CrossingsOf(sound)
		if want := 480 / period; !ok || crossings < int64(want-2) || crossings > int64(want+2) {
			t.Errorf("CrossingsOf a swing of %d: got %d %v, want %d, nearly", period, crossings, ok, want)
		}
	}
	r := rand.New(rand.NewSource(5))
	noise := make([]float32, 256)
	for k := range noise {
		noise[k] = float32(2*r.Float64() - 1)
	}
	wantBool(t, "IsVoiced of noise", impl.IsVoiced(noise, 20, 100, 0.5), false)
}

// Windows that overlap by halves have equal sums, so that frames behind them make the same sound again.
func TestFramesBehindWindowsMakeTheSameSound(t *testing.T) {
	r := rand.New(rand.NewSource(6))
	for _, kind := range []int64{impl.WindowHill, impl.WindowRound, impl.WindowFoot} {
		whole := float32(1)
		if kind == impl.WindowFoot {
			whole = 1.08
		}
		for _, size := range []int{2, 8, 10, 64, 128} {
			window, _ := impl.WindowOf(kind, int64(size))
			sound := randomSound(r, 256)
			frames, ok := impl.FramesOf(sound, int64(size), int64(size/2))
			for k, frame := range frames {
				frames[k], _ = impl.WindowSound(frame, window)
			}
			joined, okJoined := impl.JoinFrames(frames, int64(size/2))
			if !ok || !okJoined || len(joined) < 256-size {
				t.Fatalf("frames of %d: got %v %v, joined %v %v", size, frames, ok, joined, okJoined)
			}
			inner, _ := impl.ScaleSound(sound[size/2:len(joined)-size/2], whole)
			wantNear(t, fmt.Sprint("frames of ", size, " behind the window ", kind), joined[size/2:len(joined)-size/2], true, inner, 1e-5)
		}
	}
}

func TestFramesThatAreJoinedMakeTheSameSound(t *testing.T) {
	for size := int64(1); size <= 256; size++ {
		sound := wholeNumbers(256)
		frames, _ := impl.FramesOf(sound, size, size)
		joined, ok := impl.JoinFrames(frames, size)
		wantNumbers(t, fmt.Sprint("JoinFrames of frames of ", size), joined, ok, bitsText(sound[:len(joined)]))
		if int64(len(joined)) != 256/size*size {
			t.Errorf("JoinFrames of frames of %d: got %d numbers", size, len(joined))
		}
	}
}

func TestRoughSoundsAreSmoothedBack(t *testing.T) {
	r := rand.New(rand.NewSource(7))
	for round := range 100 {
		sound := randomSound(r, r.Intn(257))
		share := float32(round)/50 - 1
		rough, ok := impl.RoughSound(sound, share)
		if !ok {
			t.Fatalf("RoughSound %v %v failed", sound, share)
		}
		smooth, ok := impl.SmoothSound(rough, share)
		wantNear(t, fmt.Sprint("SmoothSound of RoughSound with ", share), smooth, ok, sound, 1e-4)
	}
}

// What is stretched to a multiple of its steps, and as many, is met again.
func TestStretchedSoundsPassThroughTheirNumbers(t *testing.T) {
	r := rand.New(rand.NewSource(8))
	for length := 2; length <= 60; length++ {
		sound := randomSound(r, length)
		for _, steps := range []int{1, 2, 3, 4} {
			long, ok := impl.StretchSound(sound, int64((length-1)*steps+1))
			met := []float32{}
			for k := 0; k < len(long); k += steps {
				met = append(met, long[k])
			}
			wantNear(t, fmt.Sprint("StretchSound of ", length, " numbers by ", steps), met, ok, sound, 1e-4)
			for k, x := range long {
				from, to := sound[min(k/steps, length-2)], sound[min(k/steps, length-2)+1]
				if x < min(from, to)-1e-4 || x > max(from, to)+1e-4 {
					t.Errorf("StretchSound of %v by %d: at %d, %v is not between %v and %v", sound, steps, k, x, from, to)
				}
			}
		}
	}
}
