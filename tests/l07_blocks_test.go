package tests

import (
	"fmt"
	"math"
	"math/rand"
	"strings"
	"testing"

	"loop.example/g01279/impl"
)

func wantPacked(t *testing.T, values []float32, want string) {
	t.Helper()
	got, ok := impl.PackValues(values)
	if !ok || got != want {
		t.Errorf("PackValues %s: got %x %v, want %x", bitsText(values), got, ok, want)
	}
	back, ok := impl.UnpackValues(want)
	wantNumbers(t, fmt.Sprintf("UnpackValues %x", want), back, ok, bitsText(values))
}

func fromAllBits(bits ...uint32) []float32 {
	list := []float32{}
	for _, b := range bits {
		list = append(list, math.Float32frombits(b))
	}
	return list
}

func TestPackValues(t *testing.T) {
	for _, c := range []struct {
		bits []uint32
		want string
	}{
		{[]uint32{0}, "\x00"}, {[]uint32{0, 0}, "\x00\x00"}, {[]uint32{0, 0, 0x80000000}, "\x00\x00\xff\xff\xff\xff\x0f"}, {[]uint32{0x80000000}, "\xff\xff\xff\xff\x0f"},
		// Small changes up and down.
		{[]uint32{1}, "\x02"}, {[]uint32{1, 0}, "\x02\x01"}, {[]uint32{1, 2, 1, 1}, "\x02\x02\x01\x00"}, {[]uint32{63}, "\x7e"}, {[]uint32{64, 0}, "\x80\x01\x7f"}, {[]uint32{65, 0}, "\x82\x01\x81\x01"}, {[]uint32{0, 64}, "\x00\x80\x01"},
		// As many bytes as it takes.
		{[]uint32{8191}, "\xfe\x7f"}, {[]uint32{8192, 0}, "\x80\x80\x01\xff\x7f"}, {[]uint32{8193, 0}, "\x82\x80\x01\x81\x80\x01"}, {[]uint32{1048575}, "\xfe\xff\x7f"}, {[]uint32{1048576, 0}, "\x80\x80\x80\x01\xff\xff\x7f"}, {[]uint32{1048577, 0}, "\x82\x80\x80\x01\x81\x80\x80\x01"}, {[]uint32{134217727}, "\xfe\xff\xff\x7f"}, {[]uint32{134217728, 0}, "\x80\x80\x80\x80\x01\xff\xff\xff\x7f"}, {[]uint32{134217729, 0}, "\x82\x80\x80\x80\x01\x81\x80\x80\x80\x01"},
		// Changes of 2147483647 and 2147483648, and those beside them.
		{[]uint32{0x007fffff, 0x807ffffe}, "\xfe\xff\xff\x07\xfe\xff\xff\xff\x0f"}, {[]uint32{0x007fffff, 0x807fffff}, "\xfe\xff\xff\x07\xff\xff\xff\xff\x0f"}, {[]uint32{0x007fffff, 0x80800000}, "\xfe\xff\xff\x07\xfd\xff\xff\xff\x0f"}, {[]uint32{0x007fffff, 0x807ffffd}, "\xfe\xff\xff\x07\xfc\xff\xff\xff\x0f"},
		{[]uint32{0x80000001, 0}, "\xfd\xff\xff\xff\x0f\xfe\xff\xff\xff\x0f"}, {[]uint32{0x80000000, 0}, "\xff\xff\xff\xff\x0f\xff\xff\xff\xff\x0f"}, {[]uint32{0x80000001, 1}, "\xfd\xff\xff\xff\x0f\xff\xff\xff\xff\x0f"}, {[]uint32{0x80000001, 2}, "\xfd\xff\xff\xff\x0f\xfd\xff\xff\xff\x0f"}, {[]uint32{1, 0x80000000}, "\x02\xfe\xff\xff\xff\x0f"}, {[]uint32{1, 0x80000001}, "\x02\xff\xff\xff\xff\x0f"}, {[]uint32{1, 0x80000002}, "\x02\xfd\xff\xff\xff\x0f"},
		// Ones, infinities and not-a-numbers.
		{[]uint32{0x3f800000}, "\x80\x80\x80\xf8\x07"}, {[]uint32{0x3f800000, 0x3f800000}, "\x80\x80\x80\xf8\x07\x00"}, {[]uint32{0x3f800000, 0xbf800000}, "\x80\x80\x80\xf8\x07\xff\xff\xff\xff\x0f"}, {[]uint32{0x7f800000, 0xff800000}, "\x80\x80\x80\xf8\x0f\xff\xff\xff\xff\x0f"}, {[]uint32{0xff800000}, "\xff\xff\xff\x07"}, {[]uint32{0x7fc00000}, "\x80\x80\x80\xfc\x0f"}, {[]uint32{0x7fc00000, 0x7fc00000, 0x7f800000}, "\x80\x80\x80\xfc\x0f\x00\xff\xff\xff\x03"}, {[]uint32{0xff7fffff}, "\x81\x80\x80\x08"},
	} {
		wantPacked(t, fromAllBits(c.bits...), c.want)
	}
	for _, values := range goodValues() {
		wantPacked(t, values, packedValues(values...))
	}
	for _, x := range edges() {
		for _, y := range edges() {
			wantPacked(t, []float32{x, y}, packedValues(x, y))
		}
	}
	// All not-a-numbers are one value.
	for _, bits := range otherNN {
		wantPacked(t, fromAllBits(bits), "\x80\x80\x80\xfc\x0f")
		wantPacked(t, fromAllBits(0, bits, bits), "\x00\x80\x80\x80\xfc\x0f\x00")
	}
}

func TestPackValuesOfRandomBits(t *testing.T) {
	r := rand.New(rand.NewSource(8))
	for range 3000 {
		values := []float32{}
		bits := r.Uint32()
		for range 1 + r.Intn(12) {
			bits += uint32(int32(r.Uint32()) >> r.Intn(32))
			values = append(values, math.Float32frombits(bits))
		}
		wantPacked(t, values, packedValues(values...))
	}
}

func TestPackValuesAtTheirLimits(t *testing.T) {
	// Each change takes as many bytes as there can be.
	long := []float32{}
	for k := range 256 {
		long = append(long, math.Float32frombits(uint32(k%2)<<31+uint32(k%3)))
	}
	wantPacked(t, long, packedValues(long...))
	for count := range 258 {
		values := repeat(float32(0), count)
		got, ok := impl.PackValues(values)
		back, okBack := impl.UnpackValues(strings.Repeat("\x00", count))
		if count == 0 || count > 256 {
			wantFailed(t, fmt.Sprint("PackValues of ", count), got, ok)
			wantNoList(t, fmt.Sprint("UnpackValues of ", count), back, okBack)
			continue
		}
		wantText(t, fmt.Sprint("PackValues of ", count), got, ok, strings.Repeat("\x00", count))
		wantNumbers(t, fmt.Sprint("UnpackValues of ", count), back, okBack, bitsText(values))
	}
	for _, values := range [][]float32{nil, {}, repeat(float32(1), 257), repeat(nan, 1000)} {
		got, ok := impl.PackValues(values)
		wantFailed(t, fmt.Sprint("PackValues of ", len(values)), got, ok)
	}
}

// badPacked are bytes that no numbers have, for one reason each.
func badPacked() []string {
	list := []string{
		"", strings.Repeat("\x00", 257), strings.Repeat("\x00", 1000), strings.Repeat("\x00", 256) + "\x80", packedValues(repeat(nan, 256)...) + "\x00", strings.Repeat("\x80", 1000), strings.Repeat("\xff\xff\xff\xff\x0f", 257),
		// Bytes with 128 that are cut.
		"\x80", "\xff", "\x81", "\x80\x80", "\xff\xff\xff\xff", "\x00\x80", "\x02\xff", "\x00\xff\xff\xff\xff", "\x80\x01\x80",
		// Numbers that are longer than needed.
		"\x80\x00", "\x81\x00", "\xff\x00", "\x00\x80\x00", "\x80\x80\x00", "\x80\x00\x00", "\xff\xff\x00", "\x80\x80\x80\x80\x00", "\xff\xff\xff\xff\x00", "\x80\x80\x80\x80\x80\x00", "\xff\xff\xff\xff\x8f\x00", "\x80\x80\x80\x80\x80\x80\x80\x80\x80\x00", "\x80\x80\x80\x80\x80\x80\x80\x80\x80\x80\x00", "\x02\x80\x00", "\x82\x80\x00\x00",
		// Numbers that are too great.
		"\x80\x80\x80\x80\x10", "\x81\x80\x80\x80\x10", "\xff\xff\xff\xff\x10", "\xff\xff\xff\xff\x1f", "\xff\xff\xff\xff\x7f", "\x80\x80\x80\x80\x7f", "\x80\x80\x80\x80\x20", "\x80\x80\x80\x80\x80\x01", "\xff\xff\xff\xff\x8f\x01", "\xff\xff\xff\xff\xff\x01", "\xff\xff\xff\xff\xff\xff\xff\xff\xff\x01", "\xff\xff\xff\xff\xff\xff\xff\xff\x7f", "\x80\x80\x80\x80\x80\x80\x80\x80\x80\x01", "\x80\x80\x80\x80\x80\x80\x80\x80\x80\x02", "\x80\x80\x80\x80\x80\x80\x80\x80\x80\x80\x80\x80\x01", "\x00\x80\x80\x80\x80\x10", "\x02\xff\xff\xff\xff\x10\x00",
	}
	// Not-a-numbers with other bits than those that are told.
	for _, bits := range otherNN {
		list = append(list, packedBytes(bits), packedBytes(0, bits), packedBytes(bits, 0), packedBytes(0x3f800000, bits, 0x7fc00000))
	}
	return list
}

func TestUnpackValuesThatFail(t *testing.T) {
	for _, s := range badPacked() {
		got, ok := impl.UnpackValues(s)
		wantNoList(t, fmt.Sprintf("UnpackValues %x", s), got, ok)
	}
}

// All rows of up to two bytes, and some longer ones: each is read only if it is what its numbers are packed to.
func TestUnpackValuesOfAllBytes(t *testing.T) {
	check := func(s string) {
		got, ok := impl.UnpackValues(s)
		bits := []uint32{}
		before, left := uint32(0), s
		for left != "" && bits != nil {
			n, size := uint64(0), 0
			for size < len(left) && left[size] >= 128 {
				n += uint64(left[size]-128) << (7 * size)
				size++
			}
			// Cut, or longer than needed, or too great.
			if size == len(left) || size > 4 || size > 0 && left[size] == 0 {
				bits = nil
				break
			}
			n += uint64(left[size]) << (7 * size)
			if n > math.MaxUint32 {
				bits = nil
				break
			}
			before += uint32(n>>1) ^ -uint32(n&1)
			bits = append(bits, before)
			if x := math.Float32frombits(before); x != x && before != notANumberBits {
				bits = nil
				break
			}
			left = left[size+1:]
		}
		if len(bits) == 0 {
			wantNoList(t, fmt.Sprintf("UnpackValues %x", s), got, ok)
			return
		}
		wantNumbers(t, fmt.Sprintf("UnpackValues %x", s), got, ok, bitsText(fromAllBits(bits...)))
	}
	for a := range 256 {
		check(string([]byte{byte(a)}))
		for b := range 256 {
			check(string([]byte{byte(a), byte(b)}))
		}
	}
	r := rand.New(rand.NewSource(9))
	for range 30000 {
		bytes := []byte{}
		for range 1 + r.Intn(12) {
			bytes = append(bytes, []byte{byte(r.Intn(256)), 0, 1, 127, 128, 255, 15, 16, 7}[r.Intn(9)])
		}
		check(string(bytes))
	}
}

func TestValidBlock(t *testing.T) {
	for _, b := range goodBlocks() {
		wantBool(t, "ValidBlock "+blockText(b), impl.ValidBlock(b), true)
	}
	for _, b := range badBlocks() {
		wantBool(t, "ValidBlock "+blockText(b), impl.ValidBlock(b), false)
	}
	for _, time := range []int64{0, 1, 2147483648, 4294967294, 4294967295} {
		wantBool(t, fmt.Sprint("ValidBlock ", time), impl.ValidBlock(blockOf(time, 1)), true)
		wantBool(t, fmt.Sprint("ValidBlock without values ", time), impl.ValidBlock(blockOf(time)), false)
	}
	for count := range 260 {
		wantBool(t, fmt.Sprint("ValidBlock of ", count), impl.ValidBlock(blockOf(0, repeat(nan, count)...)), count >= 1 && count <= 256)
	}
}

func TestSameBlock(t *testing.T) {
	all := append(goodBlocks(), badBlocks()...)
	for _, a := range all {
		for _, b := range all {
			wantBool(t, "SameBlock "+blockText(a)+" "+blockText(b), impl.SameBlock(a, b), blockText(a) == blockText(b))
		}
	}
	one := blockOf(5, 0, 1, nan, inf)
	for _, values := range changedNumbers(one.Values) {
		wantBool(t, "SameBlock "+bitsText(values), impl.SameBlock(one, blockOf(5, values...)), false)
	}
	for _, bits := range otherNN {
		wantBool(t, "SameBlock of not-a-numbers", impl.SameBlock(one, blockOf(5, 0, 1, math.Float32frombits(bits), inf)), true)
	}
	for _, c := range []struct {
		a, b impl.Block
		want bool
	}{
		{impl.Block{}, impl.Block{Values: []float32{}}, true}, {blockOf(-1, 1), blockOf(-1, 1), true}, {blockOf(4294967296, 1), blockOf(0, 1), false}, {blockOf(5, 1), blockOf(6, 1), false}, {blockOf(5, 1), blockOf(5, 1, 1), false}, {blockOf(5, 1, 1), blockOf(5, 1), false}, {blockOf(5), blockOf(5, 0), false}, {blockOf(5, 0), blockOf(5, minus0), false}, {blockOf(5, 1, 2), blockOf(5, 2, 1), false}, {blockOf(0, repeat(float32(1), 257)...), blockOf(0, repeat(float32(1), 257)...), true}, {blockOf(0, repeat(float32(1), 257)...), blockOf(0, repeat(float32(1), 258)...), false},
	} {
		wantBool(t, "SameBlock "+blockText(c.a)+" "+blockText(c.b), impl.SameBlock(c.a, c.b), c.want)
	}
}

func TestStoreBlock(t *testing.T) {
	for _, c := range []struct {
		b    impl.Block
		want string
	}{
		{blockOf(5, 0, 0), "VOX1\x05\x00\x00\x00\x02\x00\x00\x00"}, {blockOf(0, 0), "VOX1\x00\x00\x00\x00\x01\x00\x00"}, {blockOf(4294967295, minus0), "VOX1\xff\xff\xff\xff\x05\x00\xff\xff\xff\xff\x0f"}, {blockOf(305419896, 1), "VOX1\x78\x56\x34\x12\x05\x00\x80\x80\x80\xf8\x07"}, {blockOf(256, repeat(float32(0), 256)...), "VOX1\x00\x01\x00\x00\x00\x01" + strings.Repeat("\x00", 256)},
	} {
		want := checked(c.want)
		got, ok := impl.StoreBlock(c.b)
		wantText(t, "StoreBlock "+blockText(c.b), got, ok, want)
		back, ok := impl.LoadBlock(want)
		wantBlock(t, fmt.Sprintf("LoadBlock %x", want), back, ok, c.b)
	}
	// One that is told in numbers, with its check number.
	got, ok := impl.StoreBlock(blockOf(1, 0))
	wantText(t, "StoreBlock of a zero", got, ok, "VOX1\x01\x00\x00\x00\x01\x00\x00\x7d\x7e")
	for _, b := range goodBlocks() {
		got, ok := impl.StoreBlock(b)
		wantText(t, "StoreBlock "+blockText(b), got, ok, storedBlock(b))
		back, ok := impl.LoadBlock(storedBlock(b))
		wantBlock(t, "LoadBlock StoreBlock "+blockText(b), back, ok, b)
	}
	for _, b := range badBlocks() {
		got, ok := impl.StoreBlock(b)
		wantFailed(t, "StoreBlock "+blockText(b), got, ok)
	}
	// As many bytes as there can be: 256 numbers with five each.
	long := []float32{}
	for k := range 256 {
		long = append(long, []float32{minus0, 0}[k%2])
	}
	got, ok = impl.StoreBlock(blockOf(7, long...))
	if len(got) != 12+1280 {
		t.Errorf("StoreBlock of long changes has %d bytes", len(got))
	}
	wantText(t, "StoreBlock of long changes", got, ok, storedBlock(blockOf(7, long...)))
	back, ok := impl.LoadBlock(got)
	wantBlock(t, "LoadBlock of long changes", back, ok, blockOf(7, long...))
}

func wantNotLoaded(t *testing.T, what, s string) {
	t.Helper()
	got, ok := impl.LoadBlock(s)
	wantNoBlock(t, fmt.Sprintf("LoadBlock %s: %x", what, s), got, ok)
	list, read, ok := impl.RecoverBlocks(s)
	if len(list) != 0 || read != 0 || !ok {
		t.Errorf("RecoverBlocks %s: %x: got %s %d %v", what, s, blocksText(list), read, ok)
	}
}

func TestLoadBlockOfChangedBytes(t *testing.T) {
	for _, b := range []impl.Block{blockOf(5, 0, 0), blockOf(4294967295, minus0), blockOf(77777, 1, 1.5, nan, -inf, least), blockOf(0, repeat(float32(0), 256)...)} {
		s := storedBlock(b)
		for k := range len(s) {
			for other := range 256 {
				if s[k] != byte(other) {
					wantNotLoaded(t, "with another byte", s[:k]+string([]byte{byte(other)})+s[k+1:])
				}
			}
			wantNotLoaded(t, "that is cut", s[:k])
			if k > 0 {
				wantNotLoaded(t, "without its beginning", s[k:])
			}
			wantNotLoaded(t, "without a byte", s[:k]+s[k+1:])
		}
		for _, more := range []string{"x", "\x00", "\xff", "V", "VOX1", s, s[:3]} {
			got, ok := impl.LoadBlock(s + more)
			wantNoBlock(t, fmt.Sprintf("LoadBlock %x with %x behind it", s, more), got, ok)
			got, ok = impl.LoadBlock(more + s)
			wantNoBlock(t, fmt.Sprintf("LoadBlock %x with %x before it", s, more), got, ok)
		}
	}
}

func TestLoadBlockOfOtherBytes(t *testing.T) {
	for _, s := range []string{"", "V", "VOX1", "VOX1\x00\x00\x00\x00", "VOX1\x00\x00\x00\x00\x00\x00", strings.Repeat("\x00", 14), strings.Repeat("\xff", 100), strings.Repeat("VOX1", 300)} {
		wantNotLoaded(t, "of other bytes", s)
		wantNotLoaded(t, "of other bytes with a check number", checked(s))
	}
	for _, mark := range []string{"vox1", "VOX2", "VOX0", "VOX", "VOX11", "OX1V", "\x00OX1", "VOX\x01", "", "    "} {
		wantNotLoaded(t, "with another mark", storedBytes(mark, 5, "\x00\x00"))
	}
	// The check number is right, but the packed numbers are none.
	for _, packed := range badPacked() {
		wantNotLoaded(t, "with other packed numbers", storedBytes("VOX1", 5, packed))
	}
	// A check number that begins with something else than 0, or is told in the opposite order.
	s := storedBlock(blockOf(5, 1, 2, 3))
	last := len(s) - 2
	for start := int64(1); start < 65003; start += 97 {
		other, _ := impl.CheckOf(start, s[:last])
		wantNotLoaded(t, "with the check number of another start", s[:last]+string([]byte{byte(other), byte(other >> 8)}))
	}
	wantNotLoaded(t, "with its check number in the opposite order", s[:last]+s[last+1:]+s[last:last+1])
	// A length that does not fit, with the right check number.
	for size := range 40 {
		packed := "\x00\x02\x01\x00"
		if size != len(packed) {
			bytes := checked("VOX1\x05\x00\x00\x00" + string([]byte{byte(size), 0}) + packed)
			wantNotLoaded(t, "with a length that does not fit", bytes)
			bytes = checked("VOX1\x05\x00\x00\x00" + string([]byte{byte(size), 1}) + packed)
			wantNotLoaded(t, "with a length that does not fit", bytes)
		}
	}
	bytes := checked("VOX1\x05\x00\x00\x00\x00\x04" + "\x00\x02\x01\x00")
	wantNotLoaded(t, "with a length in the opposite order", bytes)
}

// manyBlocks returns so many blocks of different lengths.
func manyBlocks(count int) []impl.Block {
	list := []impl.Block{}
	for k := range count {
		list = append(list, blockOf(int64(k)*1000000000%4294967296, append(repeat(float32(k), k%3+1), minus0, 1.5, nan)...))
	}
	return list
}

func storedBlocks(list []impl.Block) string {
	s := ""
	for _, b := range list {
		s += storedBlock(b)
	}
	return s
}

func wantRecovered(t *testing.T, what, s string, want []impl.Block) {
	t.Helper()
	got, read, ok := impl.RecoverBlocks(s)
	if !ok || blocksText(got) != blocksText(want) || read != int64(len(storedBlocks(want))) {
		t.Errorf("RecoverBlocks %s: got %s and %d bytes %v, want %s and %d bytes", what, blocksText(got), read, ok, blocksText(want), len(storedBlocks(want)))
	}
}

func TestStoreBlocks(t *testing.T) {
	for count := range 12 {
		list := manyBlocks(count)
		got, ok := impl.StoreBlocks(list)
		if count <= 8 {
			wantText(t, fmt.Sprint("StoreBlocks ", count), got, ok, storedBlocks(list))
			wantRecovered(t, fmt.Sprint(count), got, list)
		} else {
			wantFailed(t, fmt.Sprint("StoreBlocks ", count), got, ok)
		}
		wantRecovered(t, fmt.Sprint("of ", count, " blocks"), storedBlocks(list), list[:min(count, 8)])
		wantRecovered(t, fmt.Sprint("of ", count, " blocks and other bytes"), storedBlocks(list)+"VOX1 and more", list[:min(count, 8)])
	}
	got, ok := impl.StoreBlocks(nil)
	wantText(t, "StoreBlocks of none", got, ok, "")
	got, ok = impl.StoreBlocks(repeat(blockOf(1, 1), 300))
	wantFailed(t, "StoreBlocks of many", got, ok)
	for _, b := range badBlocks() {
		for _, list := range [][]impl.Block{{b}, {b, blockOf(1, 1)}, {blockOf(1, 1), b}, {blockOf(1, 1), b, blockOf(1, 1)}, append(manyBlocks(7), b)} {
			got, ok := impl.StoreBlocks(list)
			wantFailed(t, "StoreBlocks "+blocksText(list), got, ok)
		}
	}
}

func TestRecoverBlocks(t *testing.T) {
	for _, count := range []int{1, 2, 3, 8, 9} {
		list := manyBlocks(count)
		s := storedBlocks(list)
		from := 0
		for k, b := range list {
			size := len(storedBlock(b))
			for at := from; at < from+size; at++ {
				what := fmt.Sprint("of ", count, " blocks, at ", at)
				wantRecovered(t, "cut "+what, s[:at], list[:min(k, 8)])
				wantRecovered(t, "changed "+what, s[:at]+string([]byte{s[at] ^ 1})+s[at+1:], list[:min(k, 8)])
				wantRecovered(t, "changed "+what, s[:at]+string([]byte{s[at] + 128})+s[at+1:], list[:min(k, 8)])
				wantRecovered(t, "without a byte "+what, s[:at]+s[at+1:], list[:min(k, 8)])
			}
			wantRecovered(t, "with a byte more", s[:from]+"\x00"+s[from:], list[:min(k, 8)])
			wantRecovered(t, "with a beginning more", s[:from]+"VOX1"+s[from:], list[:min(k, 8)])
			wantRecovered(t, "with an empty block between", s[:from]+storedBytes("VOX1", 5, "")+s[from:], list[:min(k, 8)])
			wantRecovered(t, "with a block of too many numbers between", s[:from]+storedBytes("VOX1", 5, strings.Repeat("\x00", 257))+s[from:], list[:min(k, 8)])
			wantRecovered(t, "with a number that is too long", s[:from]+storedBytes("VOX1", 5, "\x80\x00")+s[from:], list[:min(k, 8)])
			from += size
		}
	}
	for _, s := range []string{"", "V", "x", "VOX1", "\x00", strings.Repeat("\x00", 1000), strings.Repeat("VOX1", 1000), strings.Repeat("\xff", 100000)} {
		wantRecovered(t, "other bytes", s, nil)
	}
	// Blocks that are as long as they can be, and equal ones.
	long := blockOf(4294967295, append(repeat(inf, 255), minus0)...)
	for count := range 10 {
		list := repeat(long, count)
		wantRecovered(t, fmt.Sprint(count, " long blocks"), storedBlocks(list), list[:min(count, 8)])
	}
	for _, b := range goodBlocks() {
		wantRecovered(t, blockText(b), storedBlock(b)+"VOX", []impl.Block{b})
	}
}
