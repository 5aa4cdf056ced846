package tests

import (
	"fmt"
	"math"
	"strconv"
	"strings"
	"testing"

	"loop.example/g01279/impl"
)

// told returns the numbers with the given bits, hexadecimal and with commas between them.
func told(s string) []float32 {
	list := []float32{}
	if s == "" {
		return list
	}
	for _, digits := range strings.Split(s, ",") {
		bits, err := strconv.ParseUint(digits, 16, 32)
		if err != nil {
			panic(err)
		}
		list = append(list, math.Float32frombits(uint32(bits)))
	}
	return list
}

func toldNumber(s string) float32 {
	return told(s)[0]
}

// toldTube returns the tube told by its areas, loss, throat and lips, with semicolons between them.
func toldTube(s string) impl.Tube {
	parts := strings.Split(s, ";")
	return impl.Tube{Areas: told(parts[0]), Loss: toldNumber(parts[1]), Throat: toldNumber(parts[2]), Lips: toldNumber(parts[3])}
}

// toldWaves returns the waves told by what goes right and what goes left, with a slash between both.
func toldWaves(s string) impl.Waves {
	parts := strings.Split(s, "/")
	return impl.Waves{Right: told(parts[0]), Left: told(parts[1])}
}

// bitsText tells numbers by their bits, as told reads them.
func bitsText(list []float32) string {
	texts := []string{}
	for _, x := range list {
		texts = append(texts, fmt.Sprintf("%08x", bitsOf(x)))
	}
	return strings.Join(texts, ",")
}

func tubeText(t impl.Tube) string {
	return bitsText(t.Areas) + ";" + bitsText([]float32{t.Loss}) + ";" + bitsText([]float32{t.Throat}) + ";" + bitsText([]float32{t.Lips})
}

func wavesText(w impl.Waves) string {
	return bitsText(w.Right) + "/" + bitsText(w.Left)
}

// tubeOf returns a tube, whether it is valid or not.
func tubeOf(loss, throat, lips float32, areas ...float32) impl.Tube {
	return impl.Tube{Areas: areas, Loss: loss, Throat: throat, Lips: lips}
}

// quietTube returns a tube that loses nothing, and reflects nothing at its ends.
func quietTube(areas ...float32) impl.Tube {
	return tubeOf(1, 0, 0, areas...)
}

// wavesOf returns waves of the same numbers in all sections of a tube.
func wavesOf(t impl.Tube, right, left float32) impl.Waves {
	return impl.Waves{Right: repeat(right, len(t.Areas)), Left: repeat(left, len(t.Areas))}
}

// badTubes are tubes that are not valid for one reason each.
func badTubes() []impl.Tube {
	over, under := math.Nextafter32(1, 2), math.Nextafter32(-1, -2)
	list := []impl.Tube{{}, quietTube(), quietTube(repeat(float32(1), 17)...)}
	for _, area := range []float32{0, minus0, -1, -least, inf, -inf, nan} {
		list = append(list, quietTube(area), quietTube(area, 1, 1), quietTube(1, area, 1), quietTube(1, 1, area))
	}
	for _, loss := range []float32{0, minus0, -1, -least, over, inf, -inf, nan} {
		list = append(list, tubeOf(loss, 0, 0, 1, 2))
	}
	for _, end := range []float32{over, under, 2, -2, inf, -inf, nan} {
		list = append(list, tubeOf(1, end, 0, 1, 2), tubeOf(1, 0, end, 1, 2))
	}
	return list
}

// goodTubes are tubes that are valid, some of them at limits.
func goodTubes() []impl.Tube {
	return []impl.Tube{
		quietTube(1), quietTube(least), quietTube(most), tubeOf(1, 1, 1, 1, 2), tubeOf(1, -1, -1, 1, 2), tubeOf(1, 1, -1, 3), tubeOf(1, -1, 1, 3),
		tubeOf(least, 0.5, -0.5, 1, 2), tubeOf(0.5, minus0, minus0, 1, 2), quietTube(repeat(float32(1), 16)...), quietTube(least, most), quietTube(most, least),
		quietTube(most, most), tubeOf(0.9, 0.75, -0.875, 1, 3, 2, 5, 4),
	}
}

// badNumbers are those that are not finite.
func badNumbers() []float32 {
	return []float32{inf, -inf, nan, math.Float32frombits(0xff800001)}
}

func wantNumbers(t *testing.T, what string, got []float32, ok bool, want string) {
	t.Helper()
	if !ok || bitsText(got) != want {
		t.Errorf("%s: got %s (%v) %v, want %s (%v)", what, bitsText(got), got, ok, want, told(want))
	}
}

func wantTube(t *testing.T, what string, got impl.Tube, ok bool, want impl.Tube) {
	t.Helper()
	if !ok || tubeText(got) != tubeText(want) {
		t.Errorf("%s: got %s (%v) %v, want %s (%v)", what, tubeText(got), got, ok, tubeText(want), want)
	}
}

func wantWaves(t *testing.T, what string, got impl.Waves, ok bool, want impl.Waves) {
	t.Helper()
	if !ok || wavesText(got) != wavesText(want) {
		t.Errorf("%s: got %s (%v) %v, want %s (%v)", what, wavesText(got), got, ok, wavesText(want), want)
	}
}

func wantNoTube(t *testing.T, what string, got impl.Tube, ok bool) {
	t.Helper()
	if ok || tubeText(got) != tubeText(impl.Tube{}) {
		t.Errorf("%s: got %v %v, want it to fail", what, got, ok)
	}
}

func wantNoWaves(t *testing.T, what string, got impl.Waves, ok bool) {
	t.Helper()
	if ok || wavesText(got) != wavesText(impl.Waves{}) {
		t.Errorf("%s: got %v %v, want it to fail", what, got, ok)
	}
}
