package tests

import (
	"fmt"
	"hash/crc32"
	"math"
	"strings"
	"testing"

	"loop.example/g01279/impl"
)

// toldComplex returns the complex numbers with the given bits, those of both parts together, with commas between them.
func toldComplex(s string) []complex64 {
	list := []complex64{}
	if s == "" {
		return list
	}
	for _, digits := range strings.Split(s, ",") {
		list = append(list, complex(toldNumber(digits[:8]), toldNumber(digits[8:])))
	}
	return list
}

// complexBits tells complex numbers as toldComplex reads them.
func complexBits(list []complex64) string {
	texts := []string{}
	for _, x := range list {
		texts = append(texts, fmt.Sprintf("%08x%08x", bitsOf(real(x)), bitsOf(imag(x))))
	}
	return strings.Join(texts, ",")
}

// toldFrames returns the frames told with semicolons between them.
func toldFrames(s string) [][]float32 {
	frames := [][]float32{}
	if s == "" {
		return frames
	}
	for _, frame := range strings.Split(s, ";") {
		frames = append(frames, told(frame))
	}
	return frames
}

// framesText tells frames as toldFrames reads them.
func framesText(frames [][]float32) string {
	texts := []string{}
	for _, frame := range frames {
		texts = append(texts, bitsText(frame))
	}
	return strings.Join(texts, ";")
}

func wantSpectrum(t *testing.T, what string, got []complex64, ok bool, want string) {
	t.Helper()
	if !ok || complexBits(got) != want {
		t.Errorf("%s: got %s (%v) %v, want %s (%v)", what, complexBits(got), got, ok, want, toldComplex(want))
	}
}

func wantFrames(t *testing.T, what string, got [][]float32, ok bool, want string) {
	t.Helper()
	if !ok || framesText(got) != want {
		t.Errorf("%s: got %s (%v) %v, want %s (%v)", what, framesText(got), got, ok, want, toldFrames(want))
	}
}

// wantChecked checks a text that is too long to be written here by its CRC-32.
func wantChecked(t *testing.T, what, text string, ok bool, want uint32) {
	t.Helper()
	if got := crc32.ChecksumIEEE([]byte(text)); !ok || got != want {
		t.Errorf("%s: got %s %v with the check number %#08x, want %#08x", what, text, ok, got, want)
	}
}

// wholeNumbers returns a sound of small integers.
func wholeNumbers(count int) []float32 {
	sound := make([]float32, count)
	for k := range sound {
		sound[k] = float32((7*k)%11 - 5)
	}
	return sound
}

// wholeSpectrum returns complex numbers of small integers.
func wholeSpectrum(count int) []complex64 {
	list := make([]complex64, count)
	for k := range list {
		list[k] = complex(float32((5*k)%7-3), float32((3*k)%5-2))
	}
	return list
}

// badSpectra are lists that are too short or too long for spectra, or have numbers that are not finite.
func badSpectra() [][]complex64 {
	list := [][]complex64{nil, {}, repeat(complex64(1), 65), repeat(complex64(0), 300)}
	for _, x := range badNumbers() {
		for _, number := range []complex64{complex(x, 0), complex(0, x), complex(x, x), complex(x, 1), complex(1, x)} {
			list = append(list, []complex64{number}, []complex64{number, 0, 0}, []complex64{0, number, 0}, []complex64{1, 2, number}, append(repeat(complex64(0), 63), number))
		}
	}
	return list
}

// badPowers are lists that cannot be powers for one reason each.
func badPowers() [][]float32 {
	list := [][]float32{repeat(float32(1), 65), repeat(float32(1), 256), repeat(float32(0), 300)}
	for _, x := range append(badNumbers(), -least, -1, -most) {
		list = append(list, []float32{x}, []float32{x, 1, 1}, []float32{1, x, 1}, []float32{1, 1, x}, append(repeat(float32(1), 63), x))
	}
	return list
}

// badEdges are lists that cannot be edges of bands of so many powers, for one reason each.
func badEdges(powers int64) [][]int64 {
	list := [][]int64{nil, {}, {0}, {powers}, repeat(int64(0), 65), repeat(powers, 300)}
	for _, n := range badCounts(0, powers) {
		list = append(list, []int64{n}, []int64{n, powers}, []int64{0, n}, []int64{n, n}, []int64{0, n, powers})
	}
	if powers >= 1 {
		list = append(list, []int64{1, 0}, []int64{0, 1, 0}, []int64{1, 0, 1}, []int64{powers, powers - 1}, []int64{0, powers, powers - 1, powers}, append(repeat(int64(1), 63), 0))
	}
	return list
}

// oneBelow and oneAbove return the next numbers.
func oneBelow(x float32) float32 {
	return math.Nextafter32(x, -inf)
}

func oneAbove(x float32) float32 {
	return math.Nextafter32(x, inf)
}

// codesOf returns the codes of all numbers of a sound, one by one.
func codesOf(t *testing.T, sound []float32) string {
	t.Helper()
	codes := []byte{}
	for _, x := range sound {
		code, ok := impl.CodeOf(x)
		if !ok || code < 0 || code > 255 {
			t.Fatalf("CodeOf %v: got %d %v", x, code, ok)
		}
		codes = append(codes, byte(code))
	}
	return string(codes)
}
