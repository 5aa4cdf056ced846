package tests

import (
	"encoding/binary"
	"fmt"
	"math"
	"math/rand"
	"regexp"
	"strings"
	"testing"

	"loop.example/g01279/impl"
)

// ruleForm is how the text of a valid rule looks, but for the length of its sounds.
var ruleForm = regexp.MustCompile(`^([a-zVC-]{0,3})\[([a-z]{1,4})\]([a-zVC-]{0,3})=((?:[a-z]{1,4}(?:\.[a-z]{1,4})*)?)$`)

func ruleOf(before, letters, after, sounds string) impl.Rule {
	return impl.Rule{Before: before, Letters: letters, After: after, Sounds: sounds}
}

// toldRule returns the valid rule that a text tells, without the program's help.
func toldRule(text string) (impl.Rule, bool) {
	m := ruleForm.FindStringSubmatch(text)
	if m == nil || len(m[4]) > 24 {
		return impl.Rule{}, false
	}
	return ruleOf(m[1], m[2], m[3], m[4]), true
}

// toldRules returns the rules whose texts have blanks between them.
func toldRules(texts string) []impl.Rule {
	rules := []impl.Rule{}
	for _, text := range strings.Fields(texts) {
		r, ok := toldRule(text)
		if !ok {
			panic(text)
		}
		rules = append(rules, r)
	}
	return rules
}

// textOfRule tells a rule, whether it is valid or not.
func textOfRule(r impl.Rule) string {
	return r.Before + "[" + r.Letters + "]" + r.After + "=" + r.Sounds
}

// standsFor tells whether a sign stands for a byte of a word that has dashes at both ends.
func standsFor(sign, b byte) bool {
	switch sign {
	case 'V':
		return strings.IndexByte("aeiouy", b) >= 0
	case 'C':
		return strings.IndexByte("bcdfghjklmnpqrstvwxz", b) >= 0
	}
	return sign == b
}

// fitsAt tells whether a valid rule matches a word at an index: with three dashes at both ends of the word, each sign stands for one byte.
func fitsAt(r impl.Rule, word string, at int) bool {
	if at < 0 || at+len(r.Letters) > len(word) {
		return false
	}
	wide := "---" + word + "---"
	row := r.Before + r.Letters + r.After
	from := 3 + at - len(r.Before)
	for k := range len(row) {
		if !standsFor(row[k], wide[from+k]) {
			return false
		}
	}
	return true
}

func signRows(signs string, most int) []string {
	rows := []string{""}
	last := rows
	for range most {
		longer := []string{}
		for _, row := range last {
			for _, s := range signs {
				longer = append(longer, row+string(s))
			}
		}
		rows, last = append(rows, longer...), longer
	}
	return rows
}

// foreignBytes are bytes, and runes of several bytes, that are neither letters nor signs.
func foreignBytes() []string {
	return []string{"`", "{", "A", "B", "D", "U", "W", "Z", "@", "[", "]", "=", ".", ",", " ", "_", "+", "*", "'", "0", "1", "9", "\x00", "\n", "\r", "\t", "\x7f", "\x80", "\xad", "\xc3", "\xe1", "\xff", "ä", "é", "\u00a0", "\u0161", "\u2011", "ａ", "\U0001d41a"}
}

// goodWords are words, at their limits among them.
func goodWords() []string {
	return []string{"a", "z", "b", "y", "the", "made", "beauty", "rhythm", "queue", strings.Repeat("a", 23), strings.Repeat("a", 24), strings.Repeat("z", 24), strings.Repeat("ab", 12), "abcdefghijklmnopqrstuvwx", "cdefghijklmnopqrstuvwxyz"}
}

// badWords are no words, for one reason each.
func badWords() []string {
	list := []string{"", strings.Repeat("a", 25), strings.Repeat("ab", 13), strings.Repeat("a", 48), strings.Repeat("a", 300), "V", "C", "-", "a-", "-a", "a-b", "V a", "aV", "aCa"}
	for _, s := range foreignBytes() {
		list = append(list, s, s+"a", "a"+s, "a"+s+"b", strings.Repeat("a", 22)+s)
	}
	return list
}

// goodSigns can be a Before or an After.
func goodSigns() []string {
	return append([]string{"a", "z", "m", "v", "c", "V", "C", "-", "az", "VC", "CV", "--", "abc", "VVV", "CCC", "---", "-a-", "a-b", "V-C", "-V-", "aVC", "zzz"}, "")
}

// badSigns can be neither a Before nor an After.
func badSigns() []string {
	list := []string{"abcd", "VVVV", "CCCC", "----", "a-VC", "abcdefgh", strings.Repeat("-", 300)}
	for _, s := range foreignBytes() {
		list = append(list, s, s+"a", "a"+s, "V"+s+"-")
	}
	return list
}

// goodSounds can be the Sounds of a rule.
func goodSounds() []string {
	return []string{"", "a", "z", "ab", "abcd", "zzzz", "a.b", "a.a", "abcd.z", "a.abcd", "a.b.c", "abcd.abcd.abcd.abcd.abc", "abcd.abcd.abcd.abcd.abcd", "a.b.c.d.e.f.g.h.i.j.k.l", "a.b.c.d.e.f.g.h.i.j.k.lm", "rest", "v.c"}
}

// badSoundTexts can not be the Sounds of a rule, for one reason each.
func badSoundTexts() []string {
	list := []string{"abcde", "abcdefgh", "a.abcde", "abcde.a", "a.abcde.a", ".", "..", ".a", "a.", "a..b", "a.b.", ".a.b", "a.b..c", "abcd.", ".abcd", "abcd.abcd.abcd.abcd.abcd.", ".abcd.abcd.abcd.abcd.abcd", "abcd.abcd.abcd.abcd.ab.ab", "a.b.c.d.e.f.g.h.i.j.k.l.m", "abcd.abcd.abcd.abcd.abcd.a", "abcd.abcd.abcd.abcd.abcd.abcd", strings.Repeat("a.", 200) + "a", strings.Repeat("a", 24), "V", "C", "-", "a-b", "a.-", "a.V"}
	for _, s := range foreignBytes() {
		if s != "." {
			list = append(list, s, s+"a", "a"+s, "a."+s, s+".a", "a"+s+"b")
		}
	}
	return list
}

// goodRules are valid rules, at limits in one field each.
func goodRules() []impl.Rule {
	rules := []impl.Rule{ruleOf("C", "e", "-", ""), ruleOf("", "th", "", "dh.a"), ruleOf("VC-", "abcd", "-CV", "abcd.abcd.abcd.abcd.abcd")}
	for _, letters := range []string{"a", "z", "v", "c", "ab", "zz", "abc", "abcd", "zzzz"} {
		rules = append(rules, ruleOf("", letters, "", "a"))
	}
	for _, signs := range goodSigns() {
		rules = append(rules, ruleOf(signs, "a", "", "a"), ruleOf("", "a", signs, "a"), ruleOf(signs, "a", signs, ""))
	}
	for _, sounds := range goodSounds() {
		rules = append(rules, ruleOf("", "a", "", sounds))
	}
	return rules
}

// badRules are rules that are not valid for one reason each.
func badRules() []impl.Rule {
	rules := []impl.Rule{{}, {Before: "a", After: "a", Sounds: "a"}}
	for _, letters := range append(foreignBytes(), "abcde", "abcdef", strings.Repeat("a", 300), "V", "C", "-", "aV", "Ca", "a-", "-a") {
		rules = append(rules, ruleOf("", letters, "", "a"))
	}
	for _, s := range foreignBytes() {
		rules = append(rules, ruleOf("", s+"a", "", "a"), ruleOf("", "a"+s, "", "a"), ruleOf("", "a"+s+"b", "", "a"))
	}
	for _, signs := range badSigns() {
		rules = append(rules, ruleOf(signs, "a", "", "a"), ruleOf("", "a", signs, "a"))
	}
	for _, sounds := range badSoundTexts() {
		rules = append(rules, ruleOf("", "a", "", sounds))
	}
	return rules
}

// badRuleLists are lists that functions with rules do not take, for one reason each. All words could be read with them otherwise.
func badRuleLists() [][]impl.Rule {
	plain := impl.PlainRules()
	list := [][]impl.Rule{append(impl.PlainRules(), repeat(ruleOf("", "a", "", "a"), 23)...), append(impl.PlainRules(), repeat(ruleOf("", "a", "", "a"), 300)...)}
	for _, r := range badRules() {
		list = append(list, append([]impl.Rule{r}, plain...), append(impl.PlainRules(), r))
	}
	middle := append(impl.PlainRules(), plain[:20]...)
	middle[13] = ruleOf("", "n", "", "n.")
	return append(list, middle)
}

// randomWord returns a word of some letters.
func randomWord(r *rand.Rand, letters string, least, most int) string {
	word := []byte{}
	for range least + r.Intn(most-least+1) {
		word = append(word, letters[r.Intn(len(letters))])
	}
	return string(word)
}

func wantRule(t *testing.T, what string, got impl.Rule, ok bool, want impl.Rule) {
	t.Helper()
	if !ok || got != want {
		t.Errorf("%s: got %q %v, want %q", what, got, ok, want)
	}
}

func wantIndices(t *testing.T, what string, got []int64, ok bool, want ...int64) {
	t.Helper()
	if !ok || fmt.Sprint(got) != fmt.Sprint(want) {
		t.Errorf("%s: got %v %v, want %v", what, got, ok, want)
	}
}

// wantNames checks names, which are told with dashes between them.
func wantNames(t *testing.T, what string, got []string, ok bool, want string) {
	t.Helper()
	if !ok || fmt.Sprintf("%q", got) != fmt.Sprintf("%q", toldNames(want)) {
		t.Errorf("%s: got %q %v, want %s", what, got, ok, want)
	}
}

func blockOf(time int64, values ...float32) impl.Block {
	return impl.Block{Time: time, Values: values}
}

// blockText tells a block, whether it is valid or not.
func blockText(b impl.Block) string {
	return fmt.Sprint(b.Time) + ":" + bitsText(b.Values)
}

func blocksText(list []impl.Block) string {
	texts := []string{}
	for _, b := range list {
		texts = append(texts, blockText(b))
	}
	return strings.Join(texts, "/")
}

func wantBlock(t *testing.T, what string, got impl.Block, ok bool, want impl.Block) {
	t.Helper()
	if !ok || blockText(got) != blockText(want) {
		t.Errorf("%s: got %s %v, want %s", what, blockText(got), ok, blockText(want))
	}
}

func wantNoBlock(t *testing.T, what string, got impl.Block, ok bool) {
	t.Helper()
	if ok || got.Time != 0 || len(got.Values) != 0 {
		t.Errorf("%s: got %s %v, want it to fail", what, blockText(got), ok)
	}
}

// packedBytes packs any bits with the library's numbers of several bytes, which are written in the document's way.
func packedBytes(bits ...uint32) string {
	bytes := []byte{}
	before := uint32(0)
	for _, b := range bits {
		bytes = binary.AppendVarint(bytes, int64(int32(b-before)))
		before = b
	}
	return string(bytes)
}

func packedValues(values ...float32) string {
	bits := []uint32{}
	for _, x := range values {
		bits = append(bits, bitsOf(x))
	}
	return packedBytes(bits...)
}

// checkNumber tells the check number of a text.
func checkNumber(s string) uint16 {
	n := 0
	for _, b := range []byte(s) {
		n = (797*n + int(b) + 101) % 65003
	}
	return uint16(n)
}

// checked returns bytes with their check number behind them.
func checked(s string) string {
	return string(binary.LittleEndian.AppendUint16([]byte(s), checkNumber(s)))
}

// storedBytes returns a stored block with these packed bytes, whatever they are.
func storedBytes(mark string, time uint32, packed string) string {
	bytes := binary.LittleEndian.AppendUint32([]byte(mark), time)
	bytes = binary.LittleEndian.AppendUint16(bytes, uint16(len(packed)))
	return checked(string(bytes) + packed)
}

func storedBlock(b impl.Block) string {
	return storedBytes("VOX1", uint32(b.Time), packedValues(b.Values...))
}

// goodValues are lists of numbers that can be packed.
func goodValues() [][]float32 {
	list := [][]float32{{0}, {minus0}, {1}, {0, 0}, {0, 0, minus0}, {minus0, 0}, {nan}, {nan, nan, 0}, {inf, -inf, inf}, {least, -least, 0}, {1, 1.5, 1.25, -1.25}, {most, -most, most}, edges(), repeat(float32(0), 255), repeat(float32(1), 256), repeat(nan, 256)}
	wild := []float32{}
	for k := range 256 {
		wild = append(wild, math.Float32frombits(uint32(k)*2654435761))
	}
	return append(list, wild)
}

// goodBlocks are valid blocks, at limits of the time among them.
func goodBlocks() []impl.Block {
	list := []impl.Block{}
	for k, values := range goodValues() {
		list = append(list, blockOf([]int64{0, 1, 255, 256, 65535, 65536, 16777216, 2147483647, 2147483648, 4294967295}[k%10], values...))
	}
	return list
}

// badBlocks are blocks that are not valid for one reason each.
func badBlocks() []impl.Block {
	list := []impl.Block{{}, blockOf(5), blockOf(5, []float32{}...), blockOf(5, repeat(float32(1), 257)...), blockOf(5, repeat(float32(1), 1000)...)}
	for _, time := range []int64{-1, -2, 4294967296, 4294967297, math.MinInt64, math.MaxInt64, 1 << 33, -4294967296} {
		list = append(list, blockOf(time, 1), blockOf(time, 0, 0, 0))
	}
	return list
}
