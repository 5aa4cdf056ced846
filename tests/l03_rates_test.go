package tests

import (
	"fmt"
	"math"
	"testing"

	"loop.example/g01279/impl"
)

func TestNoteRate(t *testing.T) {
	for _, c := range []struct {
		half float32
		want string
	}{
		{0, "43dc0000"}, {minus0, "43dc0000"}, {12, "445c0000"}, {-12, "435c0000"}, {1, "43e914f7"}, {-1, "43cfa700"}, {3, "4402d012"}, {7, "4424d054"}, {0.5, "43e2724d"},
		{120, "48dc0000"}, {-120, "3edc0000"}, {least, "43dc0000"},
		// Here a last bit differs if the product is not rounded, or the power is not rounded before it is multiplied.
		{toldNumber("c28eaea8"), "40e488c1"}, {toldNumber("4288ab62"), "46b205e9"}, {toldNumber("42dd33e4"), "487fab84"}, {toldNumber("c2e21bf4"), "3f244b79"},
	} {
		got, ok := impl.NoteRate(c.half)
		wantSum(t, fmt.Sprint("NoteRate ", c), got, ok, toldNumber(c.want))
	}
	for _, half := range append(badNumbers(), math.Nextafter32(120, 200), math.Nextafter32(-120, -200), 121, -121, most, -most) {
		got, ok := impl.NoteRate(half)
		wantFailed(t, fmt.Sprint("NoteRate ", half), got, ok)
	}
}

// glides have two rates, a count, and the rates between.
func glides() []struct {
	from, to string
	count    int64
	want     string
} {
	return []struct {
		from, to string
		count    int64
		want     string
	}{
		{"40000000", "40000000", 3, "40000000,40000000,40000000"}, {"3f800000", "40800000", 3, "3f800000,40000000,40800000"}, {"40800000", "3f800000", 3, "40800000,40000000,3f800000"},
		{"43dc0000", "445c0000", 2, "43dc0000,445c0000"}, {"7f61b1e6", "7f167699", 2, "7f61b1e6,7f167699"}, {"00000001", "00000001", 2, "00000001,00000001"},
		{"006ce3ee", "000002ca", 3, "006ce3ee,000116d5,000002ca"},
		{"42c80000", "43480000", 13, "42c80000,42d3e483,42e07e0e,42edd767,42fbfbf6,43057be6,430d6bde,4315d4a9,431ebd77,43282de6,43322e04,433cc65d,43480000"},
		// The last one is not to, and may be greater.
		{"3f800000", "7f7ff000", 2, "3f800000,7f7ff005"}, {"7f7fffff", "3f800000", 3, "7f7fffff,5f7ffffd,3f7ffff7"}, {"00800000", "3f800000", 3, "00800000,2000000d,3f80001a"},
		{"7f7fffff", "7f7fffff", 3, "7f7fffff,7f7fffff,7f7fffff"}, {"7f000000", "7f7fffff", 3, "7f000000,7f3504f3,7f7fffff"},
		// Here a last bit differs if a product or a quotient is made otherwise.
		{"4382e5c1", "4326a361", 4, "4382e5c1,436132d8,4341b7d3,4326a361"}, {"43a89816", "42d54fff", 5, "43a89816,437cdf3e,433da3c5,430e3814,42d54ffe"},
		{"42076f4b", "43ba6319", 3, "42076f4b,42e0b134,43ba631a"}, {"4357f24a", "43a75881", 6, "4357f24a,436bb99e,4380a859,438c7101,43994df4,43a75881"},
		{"438f7398", "423b64fb", 6, "438f7398,4347ad40,430af838,42c1702b,4286a0b1,423b64fb"}, {"438a6f54", "41c1bec1", 7, "438a6f54,433877aa,42f5ce8b,42a3c57c,425a3a9b,421165bb,41c1bec0"},
	}
}

func TestGlideOf(t *testing.T) {
	for _, c := range glides() {
		got, ok := impl.GlideOf(toldNumber(c.from), toldNumber(c.to), c.count)
		wantNumbers(t, fmt.Sprint("GlideOf ", c), got, ok, c.want)
	}
	got, ok := impl.GlideOf(100, 200, 256)
	if !ok || len(got) != 256 {
		t.Fatalf("GlideOf with 256 numbers: got %v %v", got, ok)
	}
	wantNumbers(t, "GlideOf, the first ones of 256", got[:3], ok, "42c80000,42c88b5d,42c9171a")
	wantNumbers(t, "GlideOf, the last ones of 256", got[253:], ok, "4346ea6a,43477504,43480000")
}

func TestGlideOfFails(t *testing.T) {
	for _, count := range badCounts(2, 256) {
		got, ok := impl.GlideOf(1, 2, count)
		wantNoList(t, fmt.Sprint("GlideOf with the count ", count), got, ok)
	}
	for _, bad := range append(badNumbers(), 0, minus0, -least, -1, -most) {
		got, ok := impl.GlideOf(bad, 1, 3)
		wantNoList(t, fmt.Sprint("GlideOf from ", bad), got, ok)
		got, ok = impl.GlideOf(1, bad, 3)
		wantNoList(t, fmt.Sprint("GlideOf to ", bad), got, ok)
		got, ok = impl.GlideOf(bad, bad, 3)
		wantNoList(t, fmt.Sprint("GlideOf from and to ", bad), got, ok)
	}
	// The quotient is infinite, or 0, or a rate is rounded to what is infinite.
	for _, c := range [][2]float32{{least, most}, {0.5, most}, {most, least}, {1, most}, {math.Nextafter32(most, 0), most}} {
		for _, count := range []int64{2, 3} {
			got, ok := impl.GlideOf(c[0], c[1], count)
			wantNoList(t, fmt.Sprint("GlideOf ", c, count), got, ok)
		}
	}
}

func TestTrembleOf(t *testing.T) {
	for _, c := range []struct {
		base, depth, turns string
		count              int64
		want               string
	}{
		{"40000000", "3f000000", "3e800000", 5, "40000000,40400000,40000000,3f800000,40000000"}, {"40000000", "3f000000", "be800000", 2, "40000000,3f800000"}, {"40400000", "00000000", "3dcccccd", 2, "40400000,40400000"},
		{"40400000", "40000000", "3e800000", 4, "40400000,41100000,40400000,c0400000"}, {"00000000", "3f800000", "3dcccccd", 3, "00000000,00000000,00000000"}, {"80000000", "3f800000", "3dcccccd", 3, "80000000,80000000,80000000"},
		{"7f7fffff", "00000000", "3e99999a", 3, "7f7fffff,7f7fffff,7f7fffff"}, {"7f7fffff", "bf800000", "3e800000", 2, "7f7fffff,00000000"}, {"7f7fffff", "3f800000", "3e800000", 1, "7f7fffff"},
		{"3f000000", "7f7fffff", "3e800000", 2, "3f000000,7effffff"}, {"40000000", "7f7fffff", "3e800000", 1, "40000000"}, {"40a00000", "3f000000", "7f7fffff", 2, "40a00000,40a00000"},
		{"40e00000", "3f000000", "59800000", 4, "40e00000,40e00000,40e00000,40e00000"}, {"3f800000", "3f800000", "00000001", 3, "3f800000,3f800000,3f800000"}, {"3f800000", "bf800000", "3f000000", 3, "3f800000,3f800000,3f800000"},
		// Here a last bit differs if an operation is not rounded on its own, or the turns are added one after another.
		{"423550a7", "bf485414", "bd62f6b3", 5, "423550a7,4265b8b4,428828e3,4297ffaa,42a07a20"}, {"c329f8d6", "bf4110ba", "3f5c5855", 4, "c329f8d6,c3862f41,c3940ce7,c3694044"},
		{"c385217d", "be1f12ff", "3e54c9fe", 6, "c385217d,c3625828,c375576c,c3939b83,c3972d8b,c3801cc7"}, {"434770db", "3f2bed89", "3e247591", 4, "434770db,439c66fe,43a01983,4356b669"},
		{"43c1f6db", "bef335e2", "bf34bd7a", 6, "43c1f6db,4352a591,43f2561c,44001aa6,435f401d,43b0a751"}, {"43a4c53a", "bf043829", "bf71794a", 7, "43a4c53a,4387117f,435a342e,43344623,43211e0e,432324c6,433a18fd"},
		{"c0bd30a4", "3f54d3fe", "bef8830e", 7, "c0bd30a4,c0aec1ce,c0d9ef23,c092608f,c0f5b5ca,c06ee109,c107ca8f"},
	} {
		got, ok := impl.TrembleOf(toldNumber(c.base), toldNumber(c.depth), toldNumber(c.turns), c.count)
		wantNumbers(t, fmt.Sprint("TrembleOf ", c), got, ok, c.want)
	}
	got, ok := impl.TrembleOf(7, 0.3, 0.013, 256)
	if !ok || len(got) != 256 {
		t.Fatalf("TrembleOf with 256 numbers: got %v %v", got, ok)
	}
	wantNumbers(t, "TrembleOf, the first ones of 256", got[:2], ok, "40e00000,40e57ba0")
	wantNumbers(t, "TrembleOf, the last ones of 256", got[253:], ok, "411098a4,410fd290,410ed628")
}

func TestTrembleOfFails(t *testing.T) {
	for _, count := range badCounts(1, 256) {
		got, ok := impl.TrembleOf(1, 0.5, 0.25, count)
		wantNoList(t, fmt.Sprint("TrembleOf with the count ", count), got, ok)
	}
	for _, bad := range badNumbers() {
		for _, c := range [][3]float32{{bad, 0.5, 0.25}, {1, bad, 0.25}, {1, 0.5, bad}, {0, 0, bad}, {0, bad, 0}} {
			for _, count := range []int64{1, 3} {
				got, ok := impl.TrembleOf(c[0], c[1], c[2], count)
				wantNoList(t, fmt.Sprint("TrembleOf ", c, count), got, ok)
			}
		}
	}
	// A result is infinite; or the turns are, so that their sine is not a number.
	for _, c := range []struct {
		base, depth, turns float32
		count              int64
	}{{most, 1, 0.25, 2}, {2, most, 0.25, 2}, {-most, 1, 0.25, 4}, {5, 0.5, most, 3}, {5, 0, most, 3}, {0, 0, -most, 3}} {
		got, ok := impl.TrembleOf(c.base, c.depth, c.turns, c.count)
		wantNoList(t, fmt.Sprint("TrembleOf ", c), got, ok)
	}
}
