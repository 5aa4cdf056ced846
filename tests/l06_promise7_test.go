package tests

import (
	"fmt"
	"math"
	"math/rand"
	"testing"

	"loop.example/g01279/impl"
)

// within returns a random number from one to another one.
func within(r *rand.Rand, from, to float64) float32 {
	return float32(from + r.Float64()*(to-from))
}

// randomTargets returns sounds with so many areas.
func randomTargets(r *rand.Rand, count, areas int) []impl.Sound {
	list := []impl.Sound{}
	for _, name := range someNames(count) {
		s := targetOf(name, nil, within(r, 0.5, 3), within(r, 0, 4), within(r, 0, 1), within(r, 0, 1))
		for range areas {
			s.Areas = append(s.Areas, within(r, 0.2, 8))
		}
		list = append(list, s)
	}
	return list
}

// randomNames returns so many names of sounds.
func randomNames(r *rand.Rand, list []impl.Sound, count int) []string {
	names := []string{}
	for range count {
		names = append(names, list[r.Intn(len(list))].Name)
	}
	return names
}

// numbersOf tells all numbers of a frame.
func numbersOf(f impl.Frame) []float32 {
	return append([]float32{f.Pitch, f.Voice, f.Noise}, f.Areas...)
}

// wantBetween checks that all numbers of a frame lie between those of two others, nearly.
func wantBetween(t *testing.T, what string, f, a, b impl.Frame) {
	t.Helper()
	from, to := numbersOf(a), numbersOf(b)
	for k, x := range numbersOf(f) {
		low, high := min(from[k], to[k]), max(from[k], to[k])
		if slack := 1e-6 * (1 + high); x < low-slack || x > high+slack {
			t.Errorf("%s: the number %d of %v is not between %v and %v", what, k, f, low, high)
		}
	}
}

func TestMixedFramesLieBetween(t *testing.T) {
	r := rand.New(rand.NewSource(1))
	for range 300 {
		list := randomTargets(r, 2, 1+r.Intn(16))
		a, _ := impl.FrameOf(list[0], within(r, 0, 300))
		b, _ := impl.FrameOf(list[1], within(r, 0, 300))
		before := a
		for _, share := range []float32{0, 0.1, 0.3, 0.5, 0.8, belowOne, 1} {
			f, ok := impl.MixFrames(a, b, share)
			if !ok {
				t.Fatalf("MixFrames %v %v %v failed", a, b, share)
			}
			wantBetween(t, fmt.Sprint("MixFrames ", share), f, a, b)
			wantBetween(t, fmt.Sprint("MixFrames before ", share), before, a, f)
			before = f
		}
	}
}

// soundAround returns the index of the name at a time, as the document tells it, in 64-bit numbers, and how much is left of the time.
func soundAround(lengths []float32, time float64) (int, float64) {
	k := 0
	for k < len(lengths)-1 && time >= float64(lengths[k]) {
		time -= float64(lengths[k])
		k++
	}
	return k, time
}

func TestFramesLieBetweenThoseAround(t *testing.T) {
	r := rand.New(rand.NewSource(2))
	for round := range 60 {
		list := randomTargets(r, 1+r.Intn(6), 1+r.Intn(5))
		names := randomNames(r, list, 1+r.Intn(8))
		lengths, ok := impl.LengthsOf(list, names, make([]bool, len(names)))
		if !ok {
			t.Fatalf("LengthsOf %v %v failed", list, names)
		}
		all, _ := impl.SumNumbers(lengths)
		for step := range 100 {
			time := float32(step) * all / 80
			got, ok := impl.FrameAt(list, names, lengths, time)
			if !ok {
				t.Fatalf("FrameAt %v of %v failed", time, names)
			}
			k, left := soundAround(lengths, float64(time))
			at, _ := impl.FindSound(list, names[k])
			now, _ := impl.FrameOf(list[at], 0)
			before := now
			if k > 0 {
				from, _ := impl.FindSound(list, names[k-1])
				before, _ = impl.FrameOf(list[from], 0)
			}
			what := fmt.Sprint("FrameAt ", time, " in the round ", round)
			wantBetween(t, what, got, before, now)
			x := 1.0
			if ramp := float64(list[at].Ramp); k > 0 && left < ramp {
				x = left / ramp
			}
			done := x * x * (3 - 2*x)
			from, to := numbersOf(before), numbersOf(now)
			for n, number := range numbersOf(got) {
				if want := float64(from[n]) + done*(float64(to[n])-float64(from[n])); math.Abs(float64(number)-want) > 1e-4 {
					t.Errorf("%s: the number %d is %v, want %v, nearly", what, n, number, want)
				}
			}
		}
	}
}

func TestRampsRiseFromNothingToAll(t *testing.T) {
	before := float32(0)
	for k := range 4097 {
		x := float32(k) / 4096
		done, ok := impl.RampAt(x)
		rest, _ := impl.RampAt(1 - x)
		if !ok || done < before || done < 0 || done > 1 || math.Abs(float64(done+rest)-1) > 1e-6 {
			t.Errorf("RampAt %v: got %v %v behind %v, and %v is left", x, done, ok, before, rest)
		}
		// At first, it stays below what is not soft, and then above.
		if x > 0 && x < 0.5 && done >= x || x > 0.5 && x < 1 && done <= x {
			t.Errorf("RampAt %v: got %v", x, done)
		}
		before = done
	}
}

// Along a ramp, all numbers go from those before to those of the sound, and never back.
func TestFramesGoOneWayOnRamps(t *testing.T) {
	r := rand.New(rand.NewSource(3))
	for range 100 {
		list := randomTargets(r, 2, 3)
		list[1].Ramp = within(r, 0.1, 3)
		names, lengths := []string{list[0].Name, list[1].Name}, []float32{1, 1}
		end, _ := impl.FrameOf(list[1], 0)
		before, _ := impl.FrameOf(list[0], 0)
		for step := range 41 {
			f, ok := impl.FrameAt(list, names, lengths, 1+float32(step)/40*list[1].Ramp)
			if !ok {
				t.Fatalf("FrameAt %v of %v failed", step, list)
			}
			wantBetween(t, fmt.Sprint("FrameAt the step ", step), f, before, end)
			before = f
		}
		f, ok := impl.FrameAt(list, names, lengths, 1.01+list[1].Ramp)
		wantMoment(t, "behind its ramp", f, ok, momentText(end))
	}
}

func TestPitchesFallAsTold(t *testing.T) {
	r := rand.New(rand.NewSource(4))
	for range 200 {
		tune := tuneOf(within(r, 1, 400), within(r, 0, 1), 0)
		long := within(r, 0.1, 9)
		pitches, ok := impl.PitchesOf(tune, long, 64)
		if !ok || len(pitches) != 64 {
			t.Fatalf("PitchesOf %v failed", tune)
		}
		wantNumber(t, "the first pitch", pitches[0], tune.Base)
		for k, pitch := range pitches {
			want := float64(tune.Base) * (1 - float64(tune.Fall)*float64(k)/63)
			if math.Abs(float64(pitch)-want) > 1e-4*float64(tune.Base) || k > 0 && pitch > pitches[k-1] {
				t.Errorf("PitchesOf %v at %d: got %v, want %v, nearly", tune, k, pitch, want)
			}
		}
		// Behind three quarters, it rises by all of Rise in the end, and nothing before.
		tune.Rise = within(r, 0, 100)
		risen, _ := impl.PitchesOf(tune, long, 64)
		for k, pitch := range risen {
			want := float64(pitches[k]) + float64(tune.Rise)*max(0, float64(k)/63-0.75)*4
			if math.Abs(float64(pitch)-want) > 1e-3 {
				t.Errorf("PitchesOf %v at %d: got %v, want %v, nearly", tune, k, pitch, want)
			}
		}
	}
}

func TestPitchesBendAsTold(t *testing.T) {
	r := rand.New(rand.NewSource(5))
	for range 200 {
		tune := tuneOf(1000, within(r, 0, 0.5), within(r, -50, 50))
		plain := tune
		for range 1 + r.Intn(8) {
			next, ok := impl.AddAccent(tune, accentOf(within(r, -1, 6), within(r, -40, 40), within(r, 0.2, 3)))
			if !ok {
				t.Fatalf("AddAccent to %v failed", tune)
			}
			tune = next
		}
		for step := range 60 {
			time := float32(step) / 10
			without, _ := impl.PitchAt(plain, time, 5)
			with, ok := impl.PitchAt(tune, time, 5)
			want := float64(without)
			for _, a := range tune.Accents {
				if u := (float64(time) - float64(a.At)) / float64(a.Wide); u > -1 && u < 1 {
					want += float64(a.Size) * (1 - u*u) * (1 - u*u)
				}
			}
			if !ok || math.Abs(float64(with)-want) > 1e-2 {
				t.Errorf("PitchAt %v of %v: got %v %v, want %v, nearly", time, tune, with, ok, want)
			}
		}
	}
}

func TestBumpsAreGreatestInTheirMiddle(t *testing.T) {
	r := rand.New(rand.NewSource(6))
	for range 200 {
		a := accentOf(float32(r.Intn(9)), within(r, 0.1, 40), float32(1+r.Intn(4)))
		before, _ := impl.BumpAt(a, a.At)
		wantNumber(t, "the middle of a bump", before, a.Size)
		for step := range 50 {
			far := float32(step) / 32 * a.Wide
			left, okLeft := impl.BumpAt(a, a.At-far)
			right, okRight := impl.BumpAt(a, a.At+far)
			// These times are exact, so that both sides are the same.
			if !okLeft || !okRight || left != right || right > before || right < 0 || (right == 0) != (step >= 32) {
				t.Errorf("BumpAt %v as far as %v: got %v and %v", a, far, left, right)
			}
			before = right
		}
	}
}

func TestPitchesAreNeverBelowNothing(t *testing.T) {
	r := rand.New(rand.NewSource(7))
	nothing := 0
	for range 300 {
		tune := tuneOf(within(r, 1, 100), within(r, 0, 1), within(r, -300, 300))
		for range r.Intn(9) {
			tune.Accents = append(tune.Accents, accentOf(within(r, 0, 5), within(r, -200, 100), within(r, 0.2, 3)))
		}
		pitches, ok := impl.PitchesOf(tune, 5, 64)
		if !ok {
			t.Fatalf("PitchesOf %v failed", tune)
		}
		for k, pitch := range pitches {
			if pitch == 0 {
				nothing++
			}
			if !(pitch >= 0) || math.Signbit(float64(pitch)) {
				t.Errorf("PitchesOf %v at %d: got %v", tune, k, pitch)
			}
		}
	}
	if nothing == 0 {
		t.Error("no pitch was nothing")
	}
}

func TestSpeechIsFramesWithPitches(t *testing.T) {
	r := rand.New(rand.NewSource(8))
	spoken := 0
	for range 200 {
		list := randomTargets(r, 1+r.Intn(6), 1+r.Intn(4))
		names := randomNames(r, list, 1+r.Intn(8))
		stress := make([]bool, len(names))
		for k := range stress {
			stress[k] = r.Intn(2) == 1
		}
		tune := tuneOf(within(r, 50, 300), within(r, 0, 1), within(r, -80, 80), accentOf(within(r, 0, 3), within(r, -90, 90), within(r, 0.2, 2)))
		step := within(r, 0.1, 0.6)
		lengths, _ := impl.LengthsOf(list, names, stress)
		long, _ := impl.SumNumbers(lengths)
		frames, ok := impl.SpeakFrames(list, names, stress, tune, step)
		count := 0
		for float32(count)*step < long {
			count++
		}
		if ok != (count <= 64) || ok && len(frames) != count {
			t.Errorf("SpeakFrames of what is long %v in steps of %v: got %d frames %v, want %d", long, step, len(frames), ok, count)
		}
		for k, f := range frames {
			time := float32(k) * step
			want, okFrame := impl.FrameAt(list, names, lengths, time)
			pitch, okPitch := impl.PitchAt(tune, time, long)
			want.Pitch = pitch
			wantMoment(t, fmt.Sprint("SpeakFrames at ", time), f, okFrame && okPitch, momentText(want))
			spoken++
		}
		wantSwaysWithin(t, list, frames)
	}
	if spoken < 1000 {
		t.Errorf("only %d frames were spoken", spoken)
	}
}

// wantSwaysWithin checks that areas of frames never sway farther than from the least to the greatest one of all sounds.
func wantSwaysWithin(t *testing.T, list []impl.Sound, frames []impl.Frame) {
	t.Helper()
	if len(frames) < 2 {
		return
	}
	sways, ok := impl.SwaysOf(frames)
	if !ok || len(sways) != len(frames)-1 {
		t.Errorf("SwaysOf %d frames: got %v %v", len(frames), sways, ok)
	}
	farthest := float32(0)
	for at := range list[0].Areas {
		for _, a := range list {
			for _, b := range list {
				farthest = max(farthest, a.Areas[at]-b.Areas[at])
			}
		}
	}
	for k, sway := range sways {
		if sway < 0 || sway > farthest+1e-5 {
			t.Errorf("SwaysOf at %d: got %v, which is more than %v", k, sway, farthest)
		}
	}
}

// A list of sounds that is added to and dropped from becomes what it was.
func TestSoundsThatAreAddedAndDropped(t *testing.T) {
	r := rand.New(rand.NewSource(9))
	for range 100 {
		all := randomTargets(r, 16, 3)
		list := []impl.Sound{}
		for _, k := range r.Perm(16) {
			next, ok := impl.AddSound(list, all[k])
			if !ok || len(next) != len(list)+1 {
				t.Fatalf("AddSound of %v to %v: got %v %v", all[k], list, next, ok)
			}
			back, ok := impl.DropSound(next, all[k].Name)
			if !ok || !impl.SameSounds(back, list) {
				t.Errorf("DropSound of what was added: got %v %v, want %v", back, ok, list)
			}
			list = next
		}
		wantTargets(t, "all sounds that were added", list, true, targetsText(all))
		for k, s := range all {
			at, ok := impl.FindSound(list, s.Name)
			if !ok || at != int64(k) {
				t.Errorf("FindSound %s: got %d %v, want %d", s.Name, at, ok, k)
			}
		}
	}
}
