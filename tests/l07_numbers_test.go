package tests

import (
	"fmt"
	"math"
	"math/rand"
	"regexp"
	"strconv"
	"strings"
	"testing"

	"loop.example/g01279/impl"
)

const (
	ones  = "one two three four five six seven eight nine"
	teens = "ten eleven twelve thirteen fourteen fifteen sixteen seventeen eighteen nineteen"
	tens  = "twenty thirty forty fifty sixty seventy eighty ninety"
)

// spokenBelowThousand returns the words of all numbers less than 1000, and nothing for 0.
func spokenBelowThousand() []string {
	list := append([]string{""}, strings.Fields(ones+" "+teens)...)
	for _, ten := range strings.Fields(tens) {
		list = append(list, ten)
		for _, one := range strings.Fields(ones) {
			list = append(list, ten+" "+one)
		}
	}
	for _, one := range strings.Fields(ones) {
		list = append(list, one+" hundred")
		for _, more := range list[1:100] {
			list = append(list, one+" hundred "+more)
		}
	}
	return list
}

// spoken returns the words of a number from those of the numbers less than 1000.
func spoken(parts []string, n int) string {
	switch {
	case n == 0:
		return "zero"
	case n < 1000:
		return parts[n]
	}
	return strings.TrimSpace(parts[n/1000] + " thousand " + parts[n%1000])
}

// spokenForm is how the words of a number look.
func spokenForm() *regexp.Regexp {
	either := func(words string) string {
		return "(?:" + strings.ReplaceAll(words, " ", "|") + ")"
	}
	small := "(?:" + either(tens) + "(?: " + either(ones) + ")?|" + either(teens+" "+ones) + ")"
	part := "(?:" + either(ones) + " hundred(?: " + small + ")?|" + small + ")"
	return regexp.MustCompile("^(?:zero|" + part + " thousand(?: " + part + ")?|" + part + ")$")
}

func TestNumberWords(t *testing.T) {
	for n, want := range map[int64]string{
		0: "zero", 1: "one", 2: "two", 3: "three", 4: "four", 5: "five", 6: "six", 7: "seven", 8: "eight", 9: "nine", 10: "ten", 11: "eleven", 12: "twelve", 13: "thirteen", 14: "fourteen", 15: "fifteen", 16: "sixteen", 17: "seventeen", 18: "eighteen", 19: "nineteen",
		20: "twenty", 21: "twenty one", 29: "twenty nine", 30: "thirty", 34: "thirty four", 40: "forty", 45: "forty five", 50: "fifty", 56: "fifty six", 60: "sixty", 67: "sixty seven", 70: "seventy", 78: "seventy eight", 80: "eighty", 82: "eighty two", 90: "ninety", 93: "ninety three", 99: "ninety nine",
		100: "one hundred", 101: "one hundred one", 110: "one hundred ten", 111: "one hundred eleven", 119: "one hundred nineteen", 120: "one hundred twenty", 200: "two hundred", 910: "nine hundred ten", 999: "nine hundred ninety nine",
		1000: "one thousand", 1001: "one thousand one", 1010: "one thousand ten", 1020: "one thousand twenty", 1100: "one thousand one hundred", 1101: "one thousand one hundred one", 2000: "two thousand", 9999: "nine thousand nine hundred ninety nine", 10000: "ten thousand", 10001: "ten thousand one", 11000: "eleven thousand", 20000: "twenty thousand", 21012: "twenty one thousand twelve", 99999: "ninety nine thousand nine hundred ninety nine", 100000: "one hundred thousand", 100001: "one hundred thousand one", 100100: "one hundred thousand one hundred", 101000: "one hundred one thousand", 110000: "one hundred ten thousand", 120005: "one hundred twenty thousand five", 200000: "two hundred thousand", 777777: "seven hundred seventy seven thousand seven hundred seventy seven", 900000: "nine hundred thousand", 999000: "nine hundred ninety nine thousand", 999999: "nine hundred ninety nine thousand nine hundred ninety nine",
	} {
		got, ok := impl.NumberWords(n)
		wantText(t, fmt.Sprint("NumberWords ", n), got, ok, want)
		back, ok := impl.ReadNumberWords(want)
		if !ok || back != n {
			t.Errorf("ReadNumberWords %q: got %d %v, want %d", want, back, ok, n)
		}
	}
	for _, n := range []int64{-1, -2, -10, -999999, 1000000, 1000001, 1001000, 9999999, 1 << 32, 1<<32 + 5, -1 << 32, math.MaxInt64, math.MinInt64} {
		got, ok := impl.NumberWords(n)
		wantFailed(t, fmt.Sprint("NumberWords ", n), got, ok)
	}
}

func TestNumberWordsOfManyNumbers(t *testing.T) {
	parts := spokenBelowThousand()
	form := spokenForm()
	for n := 0; n < 1000000; n++ {
		if n > 12000 && n%17 != 0 {
			continue
		}
		want := spoken(parts, n)
		got, ok := impl.NumberWords(int64(n))
		wantText(t, fmt.Sprint("NumberWords ", n), got, ok, want)
		back, ok := impl.ReadNumberWords(want)
		if !ok || back != int64(n) {
			t.Errorf("ReadNumberWords %q: got %d %v, want %d", want, back, ok, n)
		}
		if n%1009 == 0 {
			wantBool(t, "the form of "+want, form.MatchString(want), true)
		}
	}
}

// wantSpoken checks that words are read only if they are those of a number.
func wantSpoken(t *testing.T, form *regexp.Regexp, text string) {
	t.Helper()
	n, ok := impl.ReadNumberWords(text)
	if is := form.MatchString(text); ok != is || !is && n != 0 {
		t.Errorf("ReadNumberWords %q: got %d %v", text, n, ok)
	}
	if ok {
		again, _ := impl.NumberWords(n)
		wantText(t, fmt.Sprint("NumberWords ", n, " of what was read"), again, ok, text)
	}
}

// All rows of words of numbers: up to three of any, and up to six of some.
func TestReadNumberWordsOfAllRows(t *testing.T) {
	form := spokenForm()
	check := func(words []string, most int) {
		last := []string{""}
		for range most {
			longer := []string{}
			for _, row := range last {
				for _, word := range words {
					text := strings.TrimPrefix(row+" "+word, " ")
					wantSpoken(t, form, text)
					longer = append(longer, text)
				}
			}
			last = longer
		}
	}
	check(strings.Fields("zero hundred thousand "+ones+" "+teens+" "+tens), 3)
	check(strings.Fields("zero one ten twenty hundred thousand"), 6)
	check(strings.Fields("five ninety hundred thousand"), 8)
}

func TestReadNumberWordsOfOtherTexts(t *testing.T) {
	for _, text := range []string{
		"", " ", "  ", "0", "1", "12", "one ", " one", "one  hundred", "one hundred ", " one hundred", "one hundred  one", "zero ", " zero", "One", "ONE", "one Hundred", "one\thundred", "one\nhundred", "one hundred\n", "one\u00a0hundred", "one, two", "one-hundred", "twenty-one", "twentyone", "onehundred", "one hundred and one", "and", "a hundred", "a", "minus one", "one million", "million", "hundreds", "hundred", "thousand", "hundred one", "thousand one", "fourty", "ninty", "oone", "on", "on e", "one\x00", "\xff", "one \xff", "\xff one", "ön",
		"zero zero", "zero one", "one zero", "twenty zero", "zero hundred", "one hundred zero", "zero thousand", "one thousand zero", "zero thousand one", "one hundred thousand zero", "one one", "ten one", "ten ten", "nineteen nine", "one ten", "one twenty", "twenty ten", "twenty twenty", "twenty nineteen", "twenty one one", "ten hundred", "eleven hundred", "twenty hundred", "twenty one hundred", "one hundred hundred", "one hundred one hundred", "one hundred two hundred", "two hundred one hundred", "one thousand thousand", "one thousand one thousand", "one thousand two thousand", "two thousand one thousand", "one thousand hundred", "one thousand ten hundred", "one hundred thousand one hundred thousand", "one thousand thousand one", "thousand thousand", "hundred hundred", "hundred thousand", "thousand hundred", "one hundred twenty ten", "one hundred ten one", "one hundred one ten",
		strings.Repeat("one ", 300), strings.Repeat("hundred ", 300) + "hundred", strings.Repeat("one thousand ", 300) + "one", "one" + strings.Repeat(" hundred", 300), "one" + strings.Repeat(" thousand", 300), strings.Repeat("nine hundred ", 100) + "nine", strings.Repeat(" ", 300), strings.Repeat("x", 1000),
	} {
		got, ok := impl.ReadNumberWords(text)
		wantFailed(t, fmt.Sprintf("ReadNumberWords %q", text), got, ok)
	}
}

// Words of numbers of which one is missing, one is told twice, or two have changed places.
func TestReadNumberWordsOfChangedTexts(t *testing.T) {
	form, parts := spokenForm(), spokenBelowThousand()
	r := rand.New(rand.NewSource(6))
	others := strings.Fields("zero hundred thousand and one eleven thirty")
	for range 500 {
		text := spoken(parts, r.Intn(1000000))
		words := strings.Fields(text)
		for k := range words {
			wantSpoken(t, form, strings.Join(append(append([]string{}, words[:k]...), words[k+1:]...), " "))
			wantSpoken(t, form, strings.Join(append(append([]string{}, words[:k+1]...), words[k:]...), " "))
			changed := append([]string{}, words...)
			changed[k], changed[(k+1)%len(words)] = changed[(k+1)%len(words)], changed[k]
			wantSpoken(t, form, strings.Join(changed, " "))
			for _, other := range others {
				changed[k] = other
				wantSpoken(t, form, strings.Join(changed, " "))
				wantSpoken(t, form, strings.Join(append(append([]string{}, words[:k]...), append([]string{other}, words[k:]...)...), " "))
			}
		}
		at := r.Intn(len(text))
		wantSpoken(t, form, text[:at]+text[at+1:])
		wantSpoken(t, form, text[:at]+" "+text[at:])
		wantSpoken(t, form, text[:at])
		wantSpoken(t, form, text+text[at:])
	}
}

func TestSpeakNumbers(t *testing.T) {
	for _, c := range []struct {
		text, want string
	}{
		{"in 2 01 days", "in two 01 days"}, {"", ""}, {" ", " "}, {"  ", "  "}, {"a", "a"}, {"0", "zero"}, {"5", "five"}, {"10", "ten"}, {"21", "twenty one"}, {"120005", "one hundred twenty thousand five"}, {"999999", "nine hundred ninety nine thousand nine hundred ninety nine"}, {"1 2 3", "one two three"}, {"1 1", "one one"},
		// Numbers that are too great, or have signs or leading zeros, and what only looks like a number.
		{"1000000", "1000000"}, {"1000001 1", "1000001 one"}, {"9999999999999999999999", "9999999999999999999999"}, {"1000000000000000 1000000000000001", "1000000000000000 1000000000000001"}, {"9223372036854775807 9223372036854775808", "9223372036854775807 9223372036854775808"}, {"-1", "-1"}, {"-0", "-0"}, {"+1", "+1"}, {"- 1", "- one"}, {"-", "-"}, {"00", "00"}, {"000", "000"}, {"01", "01"}, {"007 7", "007 seven"}, {"0999999", "0999999"}, {"1.5", "1.5"}, {"1,5", "1,5"}, {"1e3", "1e3"}, {"0x1", "0x1"}, {"1_000", "1_000"}, {"1a", "1a"}, {"a1", "a1"}, {"2nd", "2nd"}, {"1\n", "1\n"}, {"\t1", "\t1"}, {"1\t2", "1\t2"}, {"1\n2", "1\n2"}, {"1\u00a02", "1\u00a02"}, {"\u0661", "\u0661"}, {"１", "１"}, {"\xff", "\xff"}, {"\xff 1 \xff", "\xff one \xff"}, {"\x00 3 \x00", "\x00 three \x00"}, {"1\x00", "1\x00"}, {"ä 4 ö", "ä four ö"}, {"A 5 B!", "A five B!"},
		// Parts that are empty stay.
		{" 1", " one"}, {"1 ", "one "}, {" 1 ", " one "}, {"1  2", "one  two"}, {"  1", "  one"}, {"1   ", "one   "}, {"1   2", "one   two"}, {" a  1  b ", " a  one  b "},
		// Words are left as they are.
		{"one", "one"}, {"zero 0", "zero zero"}, {"one hundred 1", "one hundred one"}, {"100 1", "one hundred one"}, {"20 1 hundred", "twenty one hundred"},
	} {
		got, ok := impl.SpeakNumbers(c.text)
		wantText(t, fmt.Sprintf("SpeakNumbers %q", c.text), got, ok, c.want)
	}
}

func TestSpeakNumbersAtTheirLimits(t *testing.T) {
	// The limit is that of the text that is spoken, so what it becomes can be longer.
	for _, c := range []struct {
		text, want string
	}{
		{strings.Repeat("a", 256), strings.Repeat("a", 256)}, {strings.Repeat(" ", 256), strings.Repeat(" ", 256)}, {strings.Repeat("\xff", 256), strings.Repeat("\xff", 256)}, {strings.Repeat("1", 256), strings.Repeat("1", 256)}, {strings.Repeat("7 ", 128), strings.Repeat("seven ", 128)}, {strings.Repeat("7 ", 127) + "77", strings.Repeat("seven ", 127) + "seventy seven"}, {strings.Repeat("777777 ", 36) + "abcd", strings.Repeat("seven hundred seventy seven thousand seven hundred seventy seven ", 36) + "abcd"},
		{strings.Repeat("a", 252) + " 17", strings.Repeat("a", 252) + " seventeen"}, {strings.Repeat("a", 254) + " 1", strings.Repeat("a", 254) + " one"},
	} {
		got, ok := impl.SpeakNumbers(c.text)
		wantText(t, fmt.Sprintf("SpeakNumbers %q", c.text), got, ok, c.want)
	}
	for _, text := range []string{strings.Repeat("a", 257), strings.Repeat(" ", 257), strings.Repeat("7 ", 128) + "7", strings.Repeat("a", 255) + " 1", strings.Repeat("1 ", 1000), strings.Repeat("ä", 129)} {
		got, ok := impl.SpeakNumbers(text)
		wantFailed(t, fmt.Sprintf("SpeakNumbers %q", text), got, ok)
	}
}

func TestSpeakNumbersOfManyParts(t *testing.T) {
	parts := spokenBelowThousand()
	r := rand.New(rand.NewSource(7))
	for range 3000 {
		texts, want := []string{}, []string{}
		for range 1 + r.Intn(20) {
			n := r.Intn(1200000)
			if r.Intn(2) == 0 {
				n %= 1000
			}
			text := strconv.Itoa(n)
			switch r.Intn(5) {
			case 0:
				texts, want = append(texts, "0"+text), append(want, "0"+text)
			case 1:
				texts, want = append(texts, "-"+text), append(want, "-"+text)
			case 2:
				texts, want = append(texts, ""), append(want, "")
			default:
				told := text
				if n < 1000000 {
					told = spoken(parts, n)
				}
				texts, want = append(texts, text), append(want, told)
			}
		}
		text := strings.Join(texts, " ")
		got, ok := impl.SpeakNumbers(text)
		wantText(t, fmt.Sprintf("SpeakNumbers %q", text), got, ok, strings.Join(want, " "))
	}
}
