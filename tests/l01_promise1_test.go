package tests

import (
	"fmt"
	"math"
	"testing"

	"loop.example/g01279/impl"
)

// ofNumbers calls all functions of chapter 1 with numbers, and tells all results in a text.
func ofNumbers(x, y float32) string {
	a, b := complex(x, y), complex(y, x)
	tenths, ok := impl.TenthsOf(x)
	bits, okBits := impl.FromBits(int64(bitsOf(x)) - 5)
	numbers := []float32{
		impl.FlushNumber(x), impl.NarrowNumber(float64(x) / 3), impl.PowerOf(a), impl.LongOf(a), impl.AngleOf(a), impl.SineTurns(x),
		impl.AngleTurns(x, y), impl.RootNumber(x), impl.ExpNumber(x), impl.LogNumber(x), bits,
	}
	list := []complex64{
		impl.NarrowComplex(complex(float64(x)/3, float64(y)/3)), impl.MulComplex(a, b), impl.ScaleComplex(a, y), impl.ConjugateOf(a), impl.QuotientOf(a, b),
		impl.PhasorOf(float64(x)), impl.PhasorOf(float64(y) / 3),
	}
	text := fmt.Sprint(impl.SameNumber(x, y), impl.SameComplex(a, b), impl.IsFinite(x), impl.IsFiniteComplex(a), impl.IsSubnormal(x), impl.BitsOf(x), tenths, ok, okBits)
	for _, n := range numbers {
		text += fmt.Sprintf(" %08x", bitsOf(n))
	}
	for _, n := range list {
		text += fmt.Sprintf(" %08x%08x", bitsOf(real(n)), bitsOf(imag(n)))
	}
	return text
}

func TestNumbersAreToldTwiceTheSame(t *testing.T) {
	for _, a := range edgePairs() {
		if one, two := ofNumbers(real(a), imag(a)), ofNumbers(real(a), imag(a)); one != two {
			t.Errorf("%v: got %s and then %s", a, one, two)
		}
	}
}

func TestNotANumbersAreOneValue(t *testing.T) {
	for _, y := range edges() {
		want := ofNumbers(nan, y)
		wantBack := ofNumbers(y, nan)
		for _, bits := range otherNN {
			x := math.Float32frombits(bits)
			if got := ofNumbers(x, y); got != want {
				t.Errorf("%08x and %v: got %s, want %s", bits, y, got, want)
			}
			if got := ofNumbers(y, x); got != wantBack {
				t.Errorf("%v and %08x: got %s, want %s", y, bits, got, wantBack)
			}
		}
	}
}

func TestPhasorsOfAnyNumbersReturn(t *testing.T) {
	bits := uint64(0)
	for range 100000 {
		bits += 0x9e3779b97f4a7c15
		x := impl.PhasorOf(math.Float64frombits(bits))
		if impl.IsFiniteComplex(x) != (math.Abs(math.Float64frombits(bits)) <= math.MaxFloat64) {
			t.Fatalf("PhasorOf the number with the bits %016x: got %v", bits, x)
		}
	}
}

// ofLists calls all functions of chapter 1 with lists, and tells all results in a text.
func ofLists(reals, others []float32, a, b []complex64, values []int64) string {
	sum, ok1 := impl.SumNumbers(reals)
	dot, ok2 := impl.DotNumbers(reals, others)
	sums, ok3 := impl.SumComplex(a)
	dots, ok4 := impl.DotComplex(a, b)
	conjugates, ok5 := impl.DotConjugate(a, b)
	powers, ok6 := impl.PowersOf(a)
	text, ok7 := impl.NumbersText(reals)
	pairs, ok8 := impl.ComplexText(a)
	list, ok9 := impl.ListText(values)
	return fmt.Sprint(sum, dot, sums, dots, conjugates, powers, text, pairs, list, ok1, ok2, ok3, ok4, ok5, ok6, ok7, ok8, ok9)
}

// spare returns a part of a list behind which there is unused capacity with other numbers.
func spare[T any](list []T, n int) []T {
	return append([]T{}, list...)[:n]
}

func TestListsAreNotModified(t *testing.T) {
	reals, others := []float32{1, minus0, 3, least, 5, 6}, []float32{2, -1, 0.5, 7, 8, 9}
	a, b := []complex64{complex(1, 2), complex(3, minus0), 5, 6}, []complex64{complex(0, 1), complex(-2, 1), 7, 8}
	values := []int64{3, 1, -2, 9, 9}
	r, o, x, y, v := spare(reals, 4), spare(others, 4), spare(a, 2), spare(b, 2), spare(values, 3)
	one := ofLists(r, o, x, y, v)
	two := ofLists(r, o, x, y, v)
	if one != two {
		t.Errorf("got %s and then %s", one, two)
	}
	left := fmt.Sprint(r[:6], o[:6], x[:4], y[:4], v[:5])
	if want := fmt.Sprint(reals, others, a, b, values); left != want {
		t.Errorf("the arguments became %s, want %s", left, want)
	}
}

func TestListsThatAreReadAreNew(t *testing.T) {
	numbers, _ := impl.ReadNumbers("3f800000,40000000")
	pairs, _ := impl.ReadComplex("3f80000000000000")
	values, _ := impl.ReadList("1,2")
	numbers[0], pairs[0], values[0] = 9, 9, 9
	numbers, _ = impl.ReadNumbers("3f800000,40000000")
	pairs, _ = impl.ReadComplex("3f80000000000000")
	values, _ = impl.ReadList("1,2")
	if got := fmt.Sprint(numbers, pairs, values); got != "[1 2] [(1+0i)] [1 2]" {
		t.Errorf("got %s", got)
	}
}

func TestReadersReturnForAnyTexts(t *testing.T) {
	parts := []string{"", "none", ",", "-", "0", "1", "9999999999999999", "3f800000", "7fc00001", "\xff", "\u00e9", "A", " ", "\x00"}
	for _, a := range parts {
		for _, b := range parts {
			for _, c := range parts {
				readAll(t, a+b+c)
			}
		}
	}
}

// readAll checks that what is read from a text has this text, and that nothing is read where a reader fails.
func readAll(t *testing.T, s string) {
	t.Helper()
	if list, ok := impl.ReadNumbers(s); ok {
		text, ok := impl.NumbersText(list)
		wantText(t, "NumbersText of ReadNumbers", text, ok, s)
	} else {
		wantNoList(t, "ReadNumbers", list, ok)
	}
	if list, ok := impl.ReadComplex(s); ok {
		text, ok := impl.ComplexText(list)
		wantText(t, "ComplexText of ReadComplex", text, ok, s)
	} else {
		wantNoList(t, "ReadComplex", list, ok)
	}
	if list, ok := impl.ReadList(s); ok {
		text, ok := impl.ListText(list)
		wantText(t, "ListText of ReadList", text, ok, s)
	} else {
		wantNoList(t, "ReadList", list, ok)
	}
	if n, ok := impl.ReadDecimal(s); ok {
		wantText(t, "Decimal of ReadDecimal", impl.Decimal(n), true, s)
	} else {
		wantFailed(t, "ReadDecimal", n, ok)
	}
	one, ok := impl.CheckOf(0, s)
	two, _ := impl.CheckOf(0, s)
	if !ok || one != two || one < 0 || one >= impl.CheckSize {
		t.Errorf("CheckOf(0, %q): got %d and then %d", s, one, two)
	}
}
