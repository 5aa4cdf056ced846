package tests

import (
	"fmt"
	"runtime"
	"strings"
	"testing"
	"time"

	"loop.example/g01279/impl"
)

func TestSelfSums(t *testing.T) {
	for _, c := range []struct {
		sound string
		lags  int64
		want  string
	}{
		{"3f800000,40000000,3f800000", 3, "40c00000,40800000,3f800000"}, {"3f800000,40000000,3f800000", 1, "40c00000"}, {"3f800000,40000000,3f800000", 2, "40c00000,40800000"},
		{"3f800000,40000000,3f800000", 5, "40c00000,40800000,3f800000,00000000,00000000"}, {"", 1, "00000000"}, {"", 2, "00000000,00000000"}, {"40400000", 1, "41100000"}, {"40400000", 3, "41100000,00000000,00000000"},
		{"80000000", 1, "00000000"}, {"80000000,3f800000", 2, "3f800000,00000000"}, {"bf800000,3f800000", 2, "40000000,bf800000"}, {"3f800000,c0000000,40400000,c0800000", 4, "41f00000,c1a00000,41300000,c0800000"},
		{"1a000000,1a000000", 2, "00000000,00000000"}, {"1a000000,1a800000", 2, "00000002,00000001"}, {"5f000000,5f000000,5f000000", 3, "7f400000,7f000000,7e800000"},
		{"5f000000,df000000,5f000000", 3, "7f400000,ff000000,7e800000"}, {"00000001,3f800000", 2, "3f800000,00000001"}, {"5f7fffff", 2, "7f7ffffe,00000000"},
		// Here a last bit differs if a product is not rounded before it is added, or the sum goes in another order.
		{"3dbd7ba4,be81ee58,bf3875a6,bd4f9561,3fe0fc29,400016f3", 4, "40f612f0,4067fa82,bfb5fb5e,bff248a2"},
		{"bea6a89d,bf3612fb,3f0c14bd,bff7b46c,3ec3a6ec,3e8729e1,3f951555", 5, "40c74f96,bfc61c44,3fabb7e2,bfe02c91,3ea67d9f"},
		{"3f4864ed,becd2b8d,bf0b8b38,3e1e8eed,bdcea66c,bf9f2b5c,bdb3f5cf,3fa32cda", 6, "408914d8,bd9496fe,c00cf855,3f327deb,3f2a23cc,bfd108e4"},
		{"3e979b8a,bf3ef05f,bfa5a8f8,3e7260cb,bea68f97,bdd839e8", 4, "401f7cb0,3eca78d6,be27a9d0,3ee61392"},
	} {
		got, ok := impl.SelfSums(told(c.sound), c.lags)
		wantNumbers(t, fmt.Sprint("SelfSums ", c), got, ok, c.want)
		// Behind the end of the sound, there is nothing, whatever lies there.
		got, ok = impl.SelfSums(roomy(told(c.sound)...), c.lags)
		wantNumbers(t, fmt.Sprint("SelfSums with room ", c), got, ok, c.want)
	}
	for _, sound := range [][]float32{nil, {0}, {minus0, 0}} {
		for _, lags := range []int64{1, 255, 256} {
			got, ok := impl.SelfSums(sound, lags)
			wantNumbers(t, fmt.Sprint("SelfSums ", sound, lags), got, ok, strings.Repeat("00000000,", int(lags)-1)+"00000000")
		}
	}
	got, ok := impl.SelfSums(wholeNumbers(256), 256)
	wantChecked(t, "SelfSums of 256 numbers", bitsText(got), ok && len(got) == 256, 0x36ba6be2)
}

func TestSelfSumsFails(t *testing.T) {
	for _, bad := range badSounds() {
		for _, lags := range []int64{1, 2, 256} {
			got, ok := impl.SelfSums(bad, lags)
			wantNoList(t, fmt.Sprint("SelfSums ", bad, lags), got, ok)
		}
	}
	for _, sound := range [][]float32{nil, {1}, {1, 2, 3}, repeat(float32(1), 256)} {
		for _, lags := range badCounts(1, 256) {
			got, ok := impl.SelfSums(sound, lags)
			wantNoList(t, fmt.Sprint("SelfSums ", sound, lags), got, ok)
		}
	}
	for _, sound := range [][]float32{{0x1p64}, {1, -0x1p64, 1}, {most, 1}, repeat(float32(0x1p63), 4), {0x1p63, -0x1p63, 0x1p63, -0x1p63}} {
		for _, lags := range []int64{1, 2, 4, 256} {
			got, ok := impl.SelfSums(sound, lags)
			wantNoList(t, fmt.Sprint("SelfSums ", sound, lags), got, ok)
		}
	}
}

// periods are sounds with the least and the most lag, the period, and how sure it is.
func periods() []struct {
	sound              string
	least, most, where int64
	sure               string
} {
	return []struct {
		sound              string
		least, most, where int64
		sure               string
	}{
		{"3f800000,00000000,3f800000,00000000", 1, 3, 2, "3f800000"}, {"3f800000,00000000,3f800000,00000000", 1, 1, 1, "00000000"}, {"3f800000,00000000,3f800000,00000000", 2, 2, 2, "3f800000"},
		{"3f800000,00000000,3f800000,00000000", 3, 3, 3, "00000000"}, {"3f800000,00000000,3f800000,00000000", 2, 3, 2, "3f800000"}, {"3f800000,00000000,3f800000,00000000", 1, 2, 2, "3f800000"},
		{"3f800000,bf800000", 1, 1, 1, "bf800000"}, {"3f800000,3f800000", 1, 1, 1, "3f800000"}, {"40000000,40000000,40000000,40000000", 1, 3, 1, "3f800000"},
		{"40000000,40000000,40000000,40000000", 2, 3, 2, "3f800000"}, {"40000000,40000000,40000000,40000000", 3, 3, 3, "3f800000"},
		{"3f800000,00000000,00000000,3f800000,00000000,00000000,3f800000,00000000,00000000", 1, 8, 3, "3f800000"},
		{"3f800000,00000000,00000000,3f800000,00000000,00000000,3f800000,00000000,00000000", 4, 8, 6, "3f800000"},
		{"3f800000,00000000,00000000,3f800000,00000000,00000000,3f800000,00000000,00000000", 1, 2, 1, "00000000"}, {"3f800000,00000000,00000000,00000000", 1, 3, 1, "00000000"},
		{"3f800000,bf800000,3f800000,bf800000", 1, 1, 1, "bf800000"}, {"3f800000,bf800000,3f800000,bf800000", 1, 3, 2, "3f800000"}, {"3f800000,bf800000,3f800000,bf800000", 3, 3, 3, "bf800000"},
		{"3f800000,c0000000,40400000,40800000", 1, 3, 3, "3f088889"}, {"1a000000,9a800000,00000000,1c800000", 1, 1, 1, "80000000"}, {"1a000000,9a800000,00000000,1c800000", 1, 2, 1, "80000000"},
		{"5f000000,5f000000,5f000000", 1, 2, 1, "3f800000"}, {"00000000,00000000,3f800000", 1, 2, 1, "00000000"}, {"3f800000,40000000,40800000,41000000", 1, 3, 1, "3f28a8a9"},
		{"41000000,3f800000,3f800000,41000000", 1, 3, 3, "3ffc0fc1"}, {"3f800000,00000000,40000000,00000000,3f800000", 1, 4, 2, "3f8e38e3"},
		// Here a last bit or the period differs if an operation is not rounded on its own, or sums are not divided by how many products they have.
		{"3e201f9e,bf8269ce,3f1a7af2,bfe078f6,3da55085,3f3c409e,c005b8a7", 2, 6, 5, "3f558929"}, {"bec191ed,3d626166,3d89c5e3,bd7d9950,bf249d82,bece0103", 1, 4, 4, "3f6874e2"},
		{"be35e003,bf92e153,c00cb2a4,bec64c5c,bd60e67c,bfacdbd7,bdf5ee5b", 1, 5, 3, "3f2c858c"}, {"3efd7d5b,3e71f592,bf5fe21b,beb7c415,3e9afd72,3f34f466", 1, 4, 4, "3f0846fd"},
		{"3e364b04,be1dd8b4,3dd54ff2,3d9501b8,bf04dc7b,3eb25c09,bef31abe,3e92c665,3f694b44", 1, 8, 8, "3f698dce"},
	}
}

func TestPeriodOfSound(t *testing.T) {
	for _, c := range periods() {
		for _, sound := range [][]float32{told(c.sound), roomy(told(c.sound)...)} {
			where, sure, ok := impl.PeriodOfSound(sound, c.least, c.most)
			wantSum(t, fmt.Sprint("PeriodOfSound ", c), sure, ok, toldNumber(c.sure))
			if where != c.where {
				t.Errorf("PeriodOfSound %v: got %d, want %d", c, where, c.where)
			}
		}
	}
	beats := make([]float32, 256)
	for k := 0; k < len(beats); k += 32 {
		beats[k] = 1
	}
	for _, c := range [][3]int64{{1, 255, 32}, {32, 32, 32}, {33, 255, 64}, {1, 31, 1}, {65, 96, 96}, {225, 255, 225}, {255, 255, 255}, {224, 255, 224}} {
		where, sure, ok := impl.PeriodOfSound(beats, c[0], c[1])
		want := float32(0)
		if c[2]%32 == 0 {
			want = 1
		}
		wantSum(t, fmt.Sprint("PeriodOfSound of 8 beats, from ", c[0], " to ", c[1]), sure, ok, want)
		if where != c[2] {
			t.Errorf("PeriodOfSound of 8 beats, from %d to %d: got %d, want %d", c[0], c[1], where, c[2])
		}
	}
}

func wantNoPeriod(t *testing.T, sound []float32, from, to int64) {
	t.Helper()
	where, sure, ok := impl.PeriodOfSound(sound, from, to)
	wantFailed(t, fmt.Sprint("PeriodOfSound ", sound, from, to), where, ok)
	wantFailed(t, fmt.Sprint("PeriodOfSound ", sound, from, to), sure, ok)
	for _, share := range []float32{0, -1, -most, -inf, inf, nan} {
		wantBool(t, fmt.Sprint("IsVoiced ", sound, from, to, share), impl.IsVoiced(sound, from, to, share), false)
	}
}

func TestPeriodOfSoundFails(t *testing.T) {
	for _, bad := range badSounds() {
		wantNoPeriod(t, bad, 1, 1)
		wantNoPeriod(t, bad, 1, 2)
	}
	for _, length := range []int{2, 3, 10, 256} {
		sound := repeat(float32(1), length)
		last := int64(length - 1)
		for _, lag := range badCounts(1, last) {
			wantNoPeriod(t, sound, lag, last)
			wantNoPeriod(t, sound, 1, lag)
			wantNoPeriod(t, sound, lag, lag)
			wantNoPeriod(t, roomy(sound...), 1, lag)
		}
	}
	// There is no lag.
	for _, sound := range [][]float32{nil, {1}} {
		for _, c := range [][2]int64{{0, 0}, {1, 0}, {1, 1}, {0, 1}, {2, 1}, {-1, -1}} {
			wantNoPeriod(t, sound, c[0], c[1])
		}
	}
	for _, c := range [][2]int64{{2, 1}, {3, 1}, {3, 2}, {9, 8}, {9, 1}} {
		wantNoPeriod(t, repeat(float32(1), 10), c[0], c[1])
	}
	// Nothing is divided by nothing; and one of the sums is infinite, though the quotients are not.
	for _, sound := range [][]float32{{0, 0, 0}, {minus0, 0}, repeat(float32(0x1p-80), 3), {0x1.3p-75, 0, 0, 0}, {0x1p64, 0}, {1, 0x1p64, 0}, repeat(float32(0x1p63), 4)} {
		wantNoPeriod(t, sound, 1, int64(len(sound)-1))
		wantNoPeriod(t, sound, int64(len(sound)-1), int64(len(sound)-1))
	}
}

func TestIsVoiced(t *testing.T) {
	for _, c := range periods() {
		sure := toldNumber(c.sure)
		for _, share := range append(edges(), sure, oneBelow(sure), oneAbove(sure), -sure) {
			wantBool(t, fmt.Sprint("IsVoiced ", c, share), impl.IsVoiced(told(c.sound), c.least, c.most, share), sure >= share)
		}
	}
	// A share that is reached exactly, and that is just not reached.
	for _, c := range []struct {
		sound []float32
		share float32
		want  bool
	}{
		{[]float32{1, 0, 1, 0}, 1, true}, {[]float32{1, 0, 1, 0}, belowOne, true}, {[]float32{1, 0, 1, 0}, aboveOne, false}, {[]float32{1, 0, 0, 0}, 0, true}, {[]float32{1, 0, 0, 0}, minus0, true}, {[]float32{1, 0, 0, 0}, least, false},
		{[]float32{1, -1}, -1, true}, {[]float32{1, -1}, -aboveOne, true}, {[]float32{1, -1}, -belowOne, false}, {[]float32{1, -1}, -inf, true}, {[]float32{1, -1}, inf, false}, {[]float32{1, -1}, nan, false},
	} {
		wantBool(t, fmt.Sprint("IsVoiced ", c), impl.IsVoiced(c.sound, 1, int64(len(c.sound)-1), c.share), c.want)
	}
}

func TestCrossingsOf(t *testing.T) {
	for _, c := range []struct {
		sound []float32
		want  int64
	}{
		{nil, 0}, {[]float32{5}, 0}, {[]float32{-5}, 0}, {[]float32{1, -1, -1, 2}, 2}, {[]float32{1, -1}, 1}, {[]float32{-1, 1}, 1}, {[]float32{1, 2, 3}, 0}, {[]float32{-1, -2, -3}, 0},
		// Both zeros are at least 0.
		{[]float32{0, minus0}, 0}, {[]float32{minus0, 0}, 0}, {[]float32{minus0, -1}, 1}, {[]float32{0, -1}, 1}, {[]float32{-1, minus0}, 1}, {[]float32{-1, 0}, 1}, {[]float32{1, 0, 1}, 0}, {[]float32{1, minus0, 1}, 0},
		{[]float32{-1, 0, -1}, 2}, {[]float32{-1, minus0, -1}, 2}, {[]float32{1, 0, -1}, 1}, {[]float32{1, minus0, -1}, 1}, {[]float32{-1, minus0, 1}, 1}, {[]float32{0, 0, minus0, minus0, 0}, 0},
		{[]float32{-least, least}, 1}, {[]float32{least, -least, 0, -least}, 3}, {[]float32{most, -most, most}, 2}, {[]float32{0x1p-100, -0x1p-100}, 1}, {[]float32{-0x1p-100, -0x1p-100}, 0},
	} {
		got, ok := impl.CrossingsOf(c.sound)
		if !ok || got != c.want {
			t.Errorf("CrossingsOf %v: got %d %v, want %d", c.sound, got, ok, c.want)
		}
		back := make([]float32, len(c.sound))
		for k, x := range c.sound {
			back[len(back)-1-k] = x
		}
		if got, ok := impl.CrossingsOf(back); !ok || got != c.want {
			t.Errorf("CrossingsOf %v: got %d %v, want %d", back, got, ok, c.want)
		}
	}
	many := repeat(float32(1), 256)
	for k := 0; k < len(many); k += 2 {
		many[k] = -1
	}
	if got, ok := impl.CrossingsOf(many); !ok || got != 255 {
		t.Errorf("CrossingsOf 256 numbers: got %d %v, want 255", got, ok)
	}
	for _, bad := range badSounds() {
		got, ok := impl.CrossingsOf(bad)
		wantFailed(t, fmt.Sprint("CrossingsOf ", bad), got, ok)
	}
}

func TestFramesOf(t *testing.T) {
	for _, c := range []struct {
		sound      string
		size, step int64
		want       string
	}{
		{"3f800000,40000000,40400000,40800000,40a00000", 2, 2, "3f800000,40000000;40400000,40800000"}, {"3f800000,40000000,40400000,40800000", 2, 2, "3f800000,40000000;40400000,40800000"},
		{"3f800000,40000000,40400000,40800000", 2, 1, "3f800000,40000000;40000000,40400000;40400000,40800000"}, {"3f800000,40000000,40400000,40800000", 4, 1, "3f800000,40000000,40400000,40800000"},
		{"3f800000,40000000,40400000,40800000", 5, 1, ""}, {"3f800000,40000000,40400000,40800000", 4, 256, "3f800000,40000000,40400000,40800000"}, {"3f800000,40000000,40400000,40800000", 256, 1, ""}, {"", 1, 1, ""},
		{"80000000,7f7fffff,ff7fffff,00000001", 1, 1, "80000000;7f7fffff;ff7fffff;00000001"}, {"3f800000,40000000,40400000,40800000", 1, 2, "3f800000;40400000"},
		{"3f800000,40000000,40400000,40800000,40a00000", 1, 2, "3f800000;40400000;40a00000"}, {"3f800000,40000000,40400000,40800000,40a00000", 2, 3, "3f800000,40000000;40800000,40a00000"},
		{"3f800000,40000000,40400000,40800000", 2, 3, "3f800000,40000000"}, {"3f800000,40000000,40400000,40800000,40a00000", 3, 1, "3f800000,40000000,40400000;40000000,40400000,40800000;40400000,40800000,40a00000"},
		{"40e00000", 1, 1, "40e00000"}, {"40e00000", 1, 256, "40e00000"},
	} {
		for _, sound := range [][]float32{told(c.sound), roomy(told(c.sound)...)} {
			got, ok := impl.FramesOf(sound, c.size, c.step)
			wantFrames(t, fmt.Sprint("FramesOf ", c), got, ok, c.want)
		}
	}
	for _, c := range [][4]int64{{256, 256, 1, 1}, {256, 256, 256, 1}, {256, 1, 1, 256}, {256, 1, 256, 1}, {256, 255, 1, 2}, {256, 128, 128, 2}, {256, 128, 129, 1}, {255, 256, 1, 0}, {256, 1, 255, 2}, {0, 1, 1, 0}, {0, 256, 256, 0}, {256, 2, 2, 128}, {255, 2, 2, 127}} {
		sound := wholeNumbers(int(c[0]))
		got, ok := impl.FramesOf(sound, c[1], c[2])
		want := []string{}
		for k := range c[3] {
			want = append(want, bitsText(sound[k*c[2]:k*c[2]+c[1]]))
		}
		wantFrames(t, fmt.Sprint("FramesOf ", c), got, ok, strings.Join(want, ";"))
		if int64(len(got)) != c[3] {
			t.Errorf("FramesOf %v: got %d, want %d", c, len(got), c[3])
		}
	}
}

// Frames lie in memory of their own, where they overlap too.
func TestFramesShareNothing(t *testing.T) {
	for _, c := range [][2]int64{{4, 1}, {4, 2}, {4, 4}, {1, 1}, {8, 8}, {3, 5}} {
		sound := roomy(wholeNumbers(8)...)
		before := bitsText(sound[:cap(sound)])
		frames, ok := impl.FramesOf(sound, c[0], c[1])
		want := framesText(frames)
		for k := range frames {
			others := append(append([][]float32{}, frames[:k]...), frames[k+1:]...)
			text := framesText(others)
			kept := append([]float32{}, frames[k]...)
			spoil(frames[k])
			if framesText(others) != text || bitsText(sound[:cap(sound)]) != before {
				t.Errorf("FramesOf %v: with the frame %d, others became %v, and the sound %v", c, k, others, sound)
			}
			copy(frames[k], kept)
		}
		wantFrames(t, fmt.Sprint("FramesOf ", c, ", put back"), frames, ok, want)
	}
}

func TestFramesOfAndLoudFramesFail(t *testing.T) {
	fail := func(sound []float32, size, step int64) {
		t.Helper()
		frames, ok := impl.FramesOf(sound, size, step)
		wantNoList(t, fmt.Sprint("FramesOf ", sound, size, step), frames, ok)
		loud, ok := impl.LoudFrames(sound, size, step)
		wantNoList(t, fmt.Sprint("LoudFrames ", sound, size, step), loud, ok)
	}
	for _, bad := range badSounds() {
		fail(bad, 1, 1)
		fail(bad, 2, 1)
		fail(bad, 256, 256)
	}
	for _, sound := range [][]float32{nil, {1}, {1, 2, 3}, repeat(float32(1), 256)} {
		for _, bad := range badCounts(1, 256) {
			fail(sound, bad, 1)
			fail(sound, 1, bad)
			fail(sound, bad, 256)
			fail(sound, 256, bad)
			fail(sound, bad, bad)
		}
	}
}

func TestLoudFrames(t *testing.T) {
	for _, c := range []struct {
		sound      string
		size, step int64
		want       string
	}{
		{"40400000,40400000,3f800000", 2, 2, "40400000"}, {"", 1, 1, ""}, {"", 256, 256, ""}, {"40400000,c0800000", 1, 1, "40400000,40800000"}, {"40400000,40800000,40a00000", 2, 1, "40624630,4090e2dc"},
		{"40400000,40400000", 3, 1, ""}, {"3f800000,40000000,40400000,40800000,40a00000", 1, 3, "3f800000,40800000"}, {"3f800000,3f800000,40000000,40000000,40400000", 2, 2, "3f800000,40000000"},
		{"80000000,00000000", 1, 1, "00000000,00000000"}, {"40400000,40400000,5f800000", 2, 2, "40400000"}, {"5f7fffff", 1, 1, "5f7fffff"},
		// Here a last bit differs if an operation is not rounded on its own, or the sum goes in another order.
		{"3fc73a48,befcee88,3ec6c597,bdc61ef2,bfa55f98,402dd4bd,bf075cd7,be777eca,3f98cd6c", 3, 2, "3f7815a5,3f47e751,3fe1aec4,3f4440c6"},
		{"3d619567,bf1217b5,3f0ec441,bfe89601,3fb16324,3e52a66a,bd7a175f,bfc0f999,3e243d64", 3, 2, "3eec6deb,3fadd64e,3f4f4523,3f604476"},
	} {
		got, ok := impl.LoudFrames(told(c.sound), c.size, c.step)
		wantNumbers(t, fmt.Sprint("LoudFrames ", c), got, ok, c.want)
	}
	got, ok := impl.LoudFrames(wholeNumbers(256), 1, 1)
	wantChecked(t, "LoudFrames of 256 numbers", bitsText(got), ok && len(got) == 256, 0x98f65447)
}

// One frame is too loud, wherever it is; and nothing goes on behind that.
func TestLoudFramesOfTooLoudOnesFail(t *testing.T) {
	before := runtime.NumGoroutine()
	for _, at := range []int{0, 1, 100, 254, 255} {
		sound := repeat(float32(1), 256)
		sound[at] = 0x1p64
		for _, c := range [][2]int64{{1, 1}, {2, 1}, {256, 1}, {256, 256}, {128, 128}} {
			got, ok := impl.LoudFrames(sound, c[0], c[1])
			wantNoList(t, fmt.Sprint("LoudFrames, too loud at ", at, c), got, ok)
		}
	}
	// The sum of the squares is infinite, though none of them is.
	got, ok := impl.LoudFrames([]float32{1, 1, 0x1p63, 0x1p63, 0x1p63, 0x1p63, 1, 1}, 4, 2)
	wantNoList(t, "LoudFrames, too loud together", got, ok)
	got, ok = impl.LoudFrames([]float32{1, 1, 0x1p63, 0x1p63, 0x1p63, 0x1p63, 1, 1}, 2, 2)
	wantNumbers(t, "LoudFrames, loud", got, ok, "3f800000,5f000000,5f000000,3f800000")
	for range 200 {
		if runtime.NumGoroutine() <= before {
			return
		}
		time.Sleep(5 * time.Millisecond)
	}
	t.Errorf("LoudFrames: %d goroutines became %d", before, runtime.NumGoroutine())
}

func TestJoinFrames(t *testing.T) {
	for _, c := range []struct {
		frames string
		step   int64
		want   string
	}{
		{"3f800000,40000000;40400000,40800000", 1, "3f800000,40a00000,40800000"}, {"3f800000,40000000;40400000,40800000", 2, "3f800000,40000000,40400000,40800000"},
		{"3f800000,40000000;40400000,40800000", 3, "3f800000,40000000,00000000,40400000,40800000"}, {"3f800000,40000000;40400000,40800000;40a00000,40c00000", 1, "3f800000,40a00000,41100000,40c00000"},
		{"40a00000", 1, "40a00000"}, {"40a00000", 256, "40a00000"}, {"80000000,80000000", 1, "00000000,00000000"}, {"80000000;80000000", 2, "00000000,00000000,00000000"},
		{"3f800000;40000000;40400000", 1, "3f800000,40000000,40400000"}, {"7f7fffff;ff7fffff", 1, "7f7fffff,ff7fffff"}, {"7f7fffff,3f800000;ff7fffff,40000000", 1, "7f7fffff,ff7fffff,40000000"},
		{"3f800000,7f7fffff;ff7fffff,40000000", 1, "3f800000,00000000,40000000"}, {"00000001,00000001;00000001,00000001", 1, "00000001,00000002,00000001"},
		{"3f800000,40000000,40400000;41200000,41a00000,41f00000;42c80000,43480000,43960000", 1, "3f800000,41400000,42f60000,43660000,43960000"},
		{"7f7fffff,7f7fffff;ff7fffff,3f800000;7f7fffff,40000000", 1, "7f7fffff,00000000,7f7fffff,40000000"},
		// Here a last bit differs if a sum is wider, or goes in another order.
		{"bf0189c0,bdd36801,3f3aa016,bde48b82;be0bcb57,bf59c1f2,be23369d,bf8a93c1;3e0ac6fa,bf75ac06,3db6cb25,3f1d2844;bd89d1cc,3f5d5157,bec1591a,bf752b96;bd9427bc,be9b3341,be2dd06d,3fa672c7", 1, "bf0189c0,be757f58,3c63f8a0,bfa622ac,be4e06f6,bd88ef4c,bf904fd9,3fa672c7"},
		{"bfb5c940,4029fd41,bdf3c0e5,be876602;40192c88,3d946284,be8e1649,3e09c917;3fd1ac4c,c01c3822,3fbe933e,c01339c4;3fa32ab3,be75a7c5,40114dca,3f380698;bf5753fa,3f4dfe14,3dca74f4,3e835625", 1, "bfb5c940,40a194e4,3fcbb666,bfdaa4a5,3f0adad6,3f464e2c,3f515536,3e835625"},
	} {
		got, ok := impl.JoinFrames(toldFrames(c.frames), c.step)
		wantNumbers(t, fmt.Sprint("JoinFrames ", c), got, ok, c.want)
	}
	// As many frames and numbers as there may be: count, size, step, length.
	for _, c := range [][4]int{{256, 1, 1, 256}, {1, 256, 1, 256}, {1, 256, 256, 256}, {2, 128, 128, 256}, {2, 255, 1, 256}, {2, 1, 255, 256}, {255, 2, 1, 256}, {128, 2, 2, 256}, {86, 1, 3, 256}, {1, 1, 256, 1}, {256, 1, 1, 256}} {
		want := make([]float32, c[3])
		for n := range c[0] {
			for k := range c[1] {
				want[n*c[2]+k]++
			}
		}
		got, ok := impl.JoinFrames(repeat(repeat(float32(1), c[1]), c[0]), int64(c[2]))
		wantNumbers(t, fmt.Sprint("JoinFrames ", c), got, ok, bitsText(want))
	}
}

func TestJoinFramesFails(t *testing.T) {
	fail := func(frames [][]float32, step int64) {
		t.Helper()
		got, ok := impl.JoinFrames(frames, step)
		wantNoList(t, fmt.Sprint("JoinFrames ", frames, step), got, ok)
	}
	for _, step := range []int64{1, 2, 256} {
		fail(nil, step)
		fail([][]float32{}, step)
		fail([][]float32{{}}, step)
		fail([][]float32{nil}, step)
		fail([][]float32{{}, {}}, step)
		fail(repeat([]float32{}, 256), step)
		fail(repeat([]float32{1}, 257), step)
		fail(repeat([]float32{1}, 1000), step)
		fail([][]float32{repeat(float32(1), 257)}, step)
	}
	for _, lengths := range [][]int{{1, 2}, {2, 1}, {0, 1}, {1, 0}, {2, 2, 1}, {2, 2, 3}, {2, 1, 2}, {2, 3, 2}, {3, 2, 1}} {
		frames := [][]float32{}
		for _, length := range lengths {
			frames = append(frames, repeat(float32(1), length))
		}
		fail(frames, 1)
		fail(frames, 5)
	}
	for _, step := range badCounts(1, 256) {
		fail([][]float32{{1, 2}}, step)
		fail([][]float32{{1, 2}, {3, 4}}, step)
	}
	// One number more than there may be: count, size, step.
	for _, c := range [][3]int{{1, 257, 1}, {2, 256, 1}, {2, 1, 256}, {2, 129, 128}, {2, 128, 129}, {256, 2, 1}, {129, 1, 2}, {3, 1, 128}, {256, 1, 2}, {256, 256, 256}} {
		fail(repeat(repeat(float32(1), c[1]), c[0]), int64(c[2]))
	}
	for _, bad := range badNumbers() {
		fail([][]float32{{bad}}, 1)
		fail([][]float32{{0, bad}, {0, 0}}, 1)
		fail([][]float32{{0, 0}, {bad, 0}}, 1)
		fail([][]float32{{0, bad}, {-bad, 0}}, 1)
	}
	// A sum is infinite, also one on its way.
	fail([][]float32{{1, most}, {most, 1}}, 1)
	fail([][]float32{{1, 1, most}, {1, most, 1}, {-most, 1, 1}}, 1)
	fail([][]float32{{most, -most}, {-most, -most}}, 1)
}
