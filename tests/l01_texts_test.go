package tests

import (
	"fmt"
	"math"
	"strings"
	"testing"

	"loop.example/g01279/impl"
)

func TestNumbersText(t *testing.T) {
	for _, c := range []struct {
		list []float32
		want string
	}{
		{nil, "none"}, {[]float32{}, "none"}, {[]float32{1, -2}, "3f800000,c0000000"}, {[]float32{0}, "00000000"}, {[]float32{minus0}, "80000000"},
		{[]float32{least, inf, -inf}, "00000001,7f800000,ff800000"}, {[]float32{most}, "7f7fffff"}, {[]float32{math.Float32frombits(0x0abcdef0)}, "0abcdef0"},
		{repeat(float32(0), 256), strings.Repeat("00000000,", 255) + "00000000"},
	} {
		got, ok := impl.NumbersText(c.list)
		wantText(t, fmt.Sprint("NumbersText ", c.list), got, ok, c.want)
		back, ok := impl.ReadNumbers(c.want)
		if !ok || len(back) != len(c.list) {
			t.Fatalf("ReadNumbers(%q): got %v %v", c.want, back, ok)
		}
		for i, x := range back {
			wantNumber(t, fmt.Sprintf("ReadNumbers(%q) at %d", c.want, i), x, c.list[i])
		}
	}
	for _, bits := range append(otherNN, notANumberBits) {
		got, ok := impl.NumbersText([]float32{math.Float32frombits(bits)})
		wantText(t, fmt.Sprintf("NumbersText of %08x", bits), got, ok, "7fc00000")
	}
	got, ok := impl.NumbersText(repeat(float32(0), 257))
	wantFailed(t, "NumbersText of 257", got, ok)
}

func TestReadNumbersFails(t *testing.T) {
	bad := []string{
		"", ",", "None", "none ", " none", "none,none", "none,3f800000", "3f800000,none", "3f80000", "3f8000000", "3F800000", "0x3f8000", "+3f80000", "-3f80000", "3f80000g", "3f80000/", "3f80000:", "3f80000`",
		" 3f800000", "3f800000 ", "3f800000,", ",3f800000", "3f800000,,3f800000", "3f800000, 3f800000", "3f800000;3f800000", "3f8000003f800000", "3f800000\n",
		"3f8000\u00e9", "3f80000\u00e9", "\uff13f80000", "3f80000\xff", "\xff\xfe\xfd\xfc\xfb\xfa\xf9\xf8", "3f80000\x00",
		strings.Repeat("00000000,", 256) + "00000000", strings.Repeat("00000000,", 256),
	}
	for _, bits := range otherNN {
		bad = append(bad, fmt.Sprintf("%08x", bits), fmt.Sprintf("3f800000,%08x", bits))
	}
	for _, s := range bad {
		got, ok := impl.ReadNumbers(s)
		wantNoList(t, fmt.Sprintf("ReadNumbers(%q)", s), got, ok)
	}
	got, ok := impl.ReadNumbers("7fc00000")
	if !ok || len(got) != 1 {
		t.Fatalf("ReadNumbers of the not-a-number: got %v %v", got, ok)
	}
	wantNumber(t, "ReadNumbers of the not-a-number", got[0], nan)
}

func TestComplexText(t *testing.T) {
	for _, c := range []struct {
		list []complex64
		want string
	}{
		{nil, "none"}, {[]complex64{}, "none"}, {[]complex64{1}, "3f80000000000000"}, {[]complex64{1, complex(0, -2)}, "3f80000000000000,00000000c0000000"},
		{[]complex64{complex(minus0, minus0)}, "8000000080000000"}, {[]complex64{complex(nan, -inf)}, "7fc00000ff800000"}, {[]complex64{complex(least, most)}, "000000017f7fffff"},
		{repeat(complex64(0), 256), strings.Repeat("0000000000000000,", 255) + "0000000000000000"},
	} {
		got, ok := impl.ComplexText(c.list)
		wantText(t, fmt.Sprint("ComplexText ", c.list), got, ok, c.want)
		back, ok := impl.ReadComplex(c.want)
		if !ok || len(back) != len(c.list) {
			t.Fatalf("ReadComplex(%q): got %v %v", c.want, back, ok)
		}
		for i, x := range back {
			wantComplex(t, fmt.Sprintf("ReadComplex(%q) at %d", c.want, i), x, c.list[i])
		}
	}
	for _, bits := range otherNN {
		x := math.Float32frombits(bits)
		got, ok := impl.ComplexText([]complex64{complex(x, 1), complex(1, x)})
		wantText(t, fmt.Sprintf("ComplexText of %08x", bits), got, ok, "7fc000003f800000,3f8000007fc00000")
	}
	got, ok := impl.ComplexText(repeat(complex64(0), 257))
	wantFailed(t, "ComplexText of 257", got, ok)
}

func TestReadComplexFails(t *testing.T) {
	bad := []string{
		"", ",", "none,none", "NONE", "3f800000", "3f800000,00000000", "3f8000000000000", "3f800000000000000", "3F80000000000000", "3f8000000000000g", "g3f8000000000000", "3f80000 00000000",
		"3f80000000000000,", ",3f80000000000000", "3f80000000000000,3f800000", "3f80000000000000 ", "3f8000\u00e900000000", "000000003f8000\u00e9", "0000000\u00e90000000",
		strings.Repeat("0000000000000000,", 256) + "0000000000000000",
	}
	for _, bits := range otherNN {
		bad = append(bad, fmt.Sprintf("%08x00000000", bits), fmt.Sprintf("00000000%08x", bits))
	}
	for _, s := range bad {
		got, ok := impl.ReadComplex(s)
		wantNoList(t, fmt.Sprintf("ReadComplex(%q)", s), got, ok)
	}
}

func TestIsName(t *testing.T) {
	for _, s := range []string{"a", "z", "ring", "abcdefgh", "zzzzzzzz"} {
		wantBool(t, fmt.Sprintf("IsName(%q)", s), impl.IsName(s), true)
	}
	for _, s := range []string{"", "abcdefghi", "A", "aB", "a1", "a b", " a", "a ", "a-b", "`", "{", "\u00e9", "a\u00e9", "\xff", "a\x00", "\uff41", "a\n"} {
		wantBool(t, fmt.Sprintf("IsName(%q)", s), impl.IsName(s), false)
	}
}

func TestDecimal(t *testing.T) {
	for _, c := range []struct {
		n    int64
		want string
	}{
		{0, "0"}, {-4, "-4"}, {7, "7"}, {10, "10"}, {-120, "-120"}, {1000000000000000, "1000000000000000"},
		{math.MaxInt64, "9223372036854775807"}, {math.MinInt64, "-9223372036854775808"},
	} {
		if got := impl.Decimal(c.n); got != c.want {
			t.Errorf("Decimal(%d): got %q", c.n, got)
		}
	}
}

func TestReadDecimal(t *testing.T) {
	for _, n := range []int64{0, 1, -1, 9, 10, -10, 999999, 1000000000000000, -1000000000000000, 999999999999999} {
		s := fmt.Sprint(n)
		got, ok := impl.ReadDecimal(s)
		if !ok || got != n {
			t.Errorf("ReadDecimal(%q): got %d %v", s, got, ok)
		}
	}
	for _, s := range []string{
		"", "-", "+", "-0", "+1", "00", "01", "-01", "1 ", " 1", "1_000", "0x1", "1.0", "1e3", "--1", "a", "\u0661", "1\n", "\xff", "none",
		"1000000000000001", "-1000000000000001", "9223372036854775807", "-9223372036854775808", "9223372036854775808", "18446744073709551616", "18446744073709551617", strings.Repeat("9", 1000),
	} {
		got, ok := impl.ReadDecimal(s)
		wantFailed(t, fmt.Sprintf("ReadDecimal(%q)", s), got, ok)
	}
}

func TestListText(t *testing.T) {
	for _, c := range []struct {
		list []int64
		want string
	}{
		{nil, "none"}, {[]int64{}, "none"}, {[]int64{0}, "0"}, {[]int64{3, -4, 0, 3}, "3,-4,0,3"}, {[]int64{impl.MaxValue, -impl.MaxValue}, "1000000000000000,-1000000000000000"},
		{repeat(int64(5), 64), strings.Repeat("5,", 63) + "5"},
	} {
		got, ok := impl.ListText(c.list)
		wantText(t, fmt.Sprint("ListText ", c.list), got, ok, c.want)
		back, ok := impl.ReadList(c.want)
		if !ok || fmt.Sprint(back) != fmt.Sprint(c.list) {
			t.Errorf("ReadList(%q): got %v %v", c.want, back, ok)
		}
	}
	for _, list := range [][]int64{repeat(int64(5), 65), {impl.MaxValue + 1}, {-impl.MaxValue - 1}, {1, math.MaxInt64}, {math.MinInt64, 1}} {
		got, ok := impl.ListText(list)
		wantFailed(t, fmt.Sprint("ListText ", list), got, ok)
	}
}

func TestReadListFails(t *testing.T) {
	for _, s := range []string{
		"", ",", "1,", ",1", "1,,2", "1, 2", " 1", "none,none", "none,1", "1,none", "None", "-0", "1,01", "+1", "1;2", "a",
		"1000000000000001", "1,-1000000000000001", strings.Repeat("5,", 64) + "5", strings.Repeat("5,", 64),
	} {
		got, ok := impl.ReadList(s)
		wantNoList(t, fmt.Sprintf("ReadList(%q)", s), got, ok)
	}
}

func TestCheckOf(t *testing.T) {
	for _, c := range []struct {
		start int64
		s     string
		want  int64
	}{
		{0, "", 0}, {65002, "", 65002}, {1, "", 1}, {0, "a", 198}, {1, "a", 995}, {0, "\x00", 101}, {0, "\xff", 356}, {65002, "\xff", 64562},
		{0, "ab", (198*797 + 98 + 101) % 65003}, {0, "ba", (199*797 + 97 + 101) % 65003}, {198, "b", (198*797 + 98 + 101) % 65003},
		{0, "\u00e9", ((0xc3+101)*797 + 0xa9 + 101) % 65003}, {0, "\n", 111},
	} {
		got, ok := impl.CheckOf(c.start, c.s)
		if !ok || got != c.want {
			t.Errorf("CheckOf(%d, %q): got %d %v, want %d", c.start, c.s, got, ok, c.want)
		}
	}
	for _, start := range []int64{-1, 65003, math.MaxInt64, math.MinInt64} {
		got, ok := impl.CheckOf(start, "a")
		wantFailed(t, fmt.Sprint("CheckOf ", start), got, ok)
		got, ok = impl.CheckOf(start, "")
		wantFailed(t, fmt.Sprint("CheckOf of nothing ", start), got, ok)
	}
}

func TestLimits(t *testing.T) {
	if impl.MaxNumbers != 256 || impl.MaxValue != 1000000000000000 || impl.MaxItems != 64 || impl.CheckSize != 65003 {
		t.Error("a limit of chapter 1 is not the document's")
	}
}
