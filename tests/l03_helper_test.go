package tests

import (
	"fmt"
	"math"
	"strconv"
	"strings"
	"testing"

	"loop.example/g01279/impl"
)

const mostSeed = 2147483647

var (
	belowOne = math.Nextafter32(1, 0)
	aboveOne = math.Nextafter32(1, 2)
)

func throatOf(period, open, shut, breath, shake float32) impl.Throat {
	return impl.Throat{Period: period, Open: open, Close: shut, Breath: breath, Shake: shake}
}

// toldThroat returns the throat told by the bits of its five numbers.
func toldThroat(s string) impl.Throat {
	n := told(s)
	return throatOf(n[0], n[1], n[2], n[3], n[4])
}

// toldVoice returns the voice told by the bits of both numbers, a semicolon, and its seed.
func toldVoice(s string) impl.Voice {
	parts := strings.Split(s, ";")
	n := told(parts[0])
	seed, err := strconv.ParseInt(parts[1], 10, 64)
	if err != nil {
		panic(err)
	}
	return impl.Voice{Phase: n[0], Now: n[1], Seed: seed}
}

// voiceText tells a voice as toldVoice reads it.
func voiceText(v impl.Voice) string {
	return bitsText([]float32{v.Phase, v.Now}) + ";" + fmt.Sprint(v.Seed)
}

// toldEnvelope returns the envelope told by its times in decimal, and the bits of its levels.
func toldEnvelope(times, levels string) impl.Envelope {
	e := impl.Envelope{Levels: told(levels)}
	for _, digits := range strings.Split(times, ",") {
		time, err := strconv.ParseInt(digits, 10, 64)
		if err != nil {
			panic(err)
		}
		e.Times = append(e.Times, time)
	}
	return e
}

// quietThroat returns a throat without breath, which does not shake.
func quietThroat(period, open, shut float32) impl.Throat {
	return throatOf(period, open, shut, 0, 0)
}

// goodThroats are throats that are valid, most of them at limits.
func goodThroats() []impl.Throat {
	return []impl.Throat{
		quietThroat(4, 0.5, 0.5), quietThroat(2, 0.25, 0.25), quietThroat(1000, 0.25, 0.25), throatOf(8, 0.25, 0.5, 0.5, 0.25), throatOf(3, 0.25, 0.25, minus0, minus0),
		throatOf(8, 0.25, 0.25, most, 0.5), throatOf(8, 0.25, 0.25, least, least), throatOf(2, least, least, 1, 0.5), throatOf(5.5, 0.75, 0.25, 1, 0.1),
		// Sums that are rounded to 1.
		quietThroat(3, 1, least), quietThroat(3, least, 1), quietThroat(3, 1, 0x1p-24), quietThroat(3, 0x1p-24, 1), quietThroat(3, 0.5, 0.5+0x1p-24), quietThroat(3, 0.5+0x1p-24, 0.5),
	}
}

// badThroats are throats that are not valid for one reason each.
func badThroats() []impl.Throat {
	list := []impl.Throat{{}, quietThroat(3, 0.5, 0.5+0x1p-23), quietThroat(3, 0.5+0x1p-23, 0.5), quietThroat(3, 1, math.Nextafter32(0x1p-24, 1)), quietThroat(3, 0.75, 0.75), quietThroat(3, most, most)}
	for _, period := range append(badNumbers(), 0, 1, -2, -4, math.Nextafter32(2, 0), math.Nextafter32(1000, 2000), 1001, most) {
		list = append(list, quietThroat(period, 0.25, 0.25))
	}
	for _, part := range append(badNumbers(), 0, minus0, -least, -0.25, aboveOne, most, -most) {
		list = append(list, quietThroat(4, part, 0.25), quietThroat(4, 0.25, part))
	}
	for _, breath := range append(badNumbers(), -least, -1, -most) {
		list = append(list, throatOf(4, 0.25, 0.25, breath, 0))
	}
	for _, shake := range append(badNumbers(), -least, -0.25, math.Nextafter32(0.5, 1), 1, most) {
		list = append(list, throatOf(4, 0.25, 0.25, 0, shake))
	}
	return list
}

// goodVoices are voices that are valid, most of them at limits.
func goodVoices() []impl.Voice {
	return []impl.Voice{
		{Phase: 0, Now: 1, Seed: 0}, {Phase: minus0, Now: 4, Seed: mostSeed}, {Phase: belowOne, Now: 1, Seed: 1}, {Phase: belowOne, Now: most, Seed: 5}, {Phase: least, Now: 2, Seed: 12345},
		{Phase: 0.5, Now: 1000, Seed: 7}, {Phase: 0.25, Now: 8, Seed: 1 << 30},
	}
}

// badVoices are voices that are not valid for one reason each.
func badVoices() []impl.Voice {
	list := []impl.Voice{{}}
	for _, phase := range append(badNumbers(), -least, -0.5, 1, aboveOne, most) {
		list = append(list, impl.Voice{Phase: phase, Now: 4, Seed: 1})
	}
	for _, now := range append(badNumbers(), 0, belowOne, 0.5, -1, -4) {
		list = append(list, impl.Voice{Phase: 0.5, Now: now, Seed: 1})
	}
	for _, seed := range badSeeds() {
		list = append(list, impl.Voice{Phase: 0.5, Now: 4, Seed: seed})
	}
	return list
}

func badSeeds() []int64 {
	return []int64{-1, mostSeed + 1, 1 << 32, math.MinInt64, math.MaxInt64}
}

// goodEnvelopes are envelopes that are valid, most of them at limits.
func goodEnvelopes() []impl.Envelope {
	full := impl.Envelope{}
	for k := range int64(16) {
		full.Times = append(full.Times, 10*k)
		full.Levels = append(full.Levels, float32(k*k%7-3))
	}
	return []impl.Envelope{
		{Times: []int64{0}, Levels: []float32{2}}, {Times: []int64{1000000}, Levels: []float32{minus0}}, {Times: []int64{0, 1000000}, Levels: []float32{-1, 2}},
		{Times: []int64{5, 6}, Levels: []float32{most, -most}}, {Times: []int64{1, 3}, Levels: []float32{0, 1}}, {Times: []int64{0, 2, 255}, Levels: []float32{least, 3, -1}}, full,
	}
}

// badEnvelopes are envelopes that are not valid for one reason each.
func badEnvelopes() []impl.Envelope {
	tooMany := impl.Envelope{Levels: repeat(float32(1), 17)}
	for k := range int64(17) {
		tooMany.Times = append(tooMany.Times, k)
	}
	list := []impl.Envelope{
		{}, tooMany, {Times: []int64{1}}, {Levels: []float32{1}}, {Times: []int64{1, 2}, Levels: []float32{1}}, {Times: []int64{1}, Levels: []float32{1, 2}},
		{Times: tooMany.Times, Levels: repeat(float32(1), 16)}, {Times: tooMany.Times[:16], Levels: repeat(float32(1), 17)},
		{Times: []int64{1, 1}, Levels: []float32{1, 2}}, {Times: []int64{2, 1}, Levels: []float32{1, 2}}, {Times: []int64{0, 5, 5}, Levels: []float32{1, 2, 3}}, {Times: []int64{0, 5, 4}, Levels: []float32{1, 2, 3}},
	}
	for _, time := range []int64{-1, 1000001, math.MinInt64, math.MaxInt64} {
		list = append(list, impl.Envelope{Times: []int64{time}, Levels: []float32{1}})
	}
	list = append(list, impl.Envelope{Times: []int64{-1, 1}, Levels: []float32{1, 2}}, impl.Envelope{Times: []int64{1, 1000001}, Levels: []float32{1, 2}})
	for _, x := range badNumbers() {
		list = append(list, impl.Envelope{Times: []int64{1, 2}, Levels: []float32{x, 0}}, impl.Envelope{Times: []int64{1, 2}, Levels: []float32{0, x}})
	}
	return list
}

// badSounds are lists that are no sounds.
func badSounds() [][]float32 {
	list := [][]float32{repeat(float32(1), 257), repeat(float32(0), 1000)}
	for _, x := range badNumbers() {
		list = append(list, []float32{x}, []float32{x, 0, 0}, []float32{0, x, 0}, []float32{0, 0, x}, append(repeat(float32(1), 255), x))
	}
	return list
}

// badCounts are those that no list may have, where most is the greatest one that it may have, and from the least one.
func badCounts(from, most int64) []int64 {
	return []int64{from - 1, from - 2, -1, math.MinInt64, most + 1, most + 2, 1 << 32, 1<<32 + from, math.MaxInt64}
}

func wantVoice(t *testing.T, what string, got impl.Voice, ok bool, want string) {
	t.Helper()
	if !ok || voiceText(got) != want {
		t.Errorf("%s: got %s (%v) %v, want %s", what, voiceText(got), got, ok, want)
	}
}

func wantNoVoice(t *testing.T, what string, got impl.Voice, ok bool) {
	t.Helper()
	if ok || voiceText(got) != voiceText(impl.Voice{}) {
		t.Errorf("%s: got %v %v, want it to fail", what, got, ok)
	}
}
