package tests

import (
	"fmt"
	"math"
	"math/rand"
	"strings"
	"testing"

	"loop.example/g01279/impl"
)

// farIndices are in no word.
func farIndices(word string) []int64 {
	n := int64(len(word))
	return []int64{-1, -2, -n, -n - 1, n, n + 1, n + 2, n + 3, 24, 25, 100, 1 << 31, 1 << 32, 1<<32 + 1, -1 << 32, math.MaxInt64, math.MaxInt64 - 1, math.MinInt64, math.MinInt64 + 1}
}

func TestMatchesAt(t *testing.T) {
	for _, c := range []struct {
		rule, word, at string // the indices at which it matches
	}{
		{"C[e]-=", "made", "3"}, {"C[e]-=", "maed", ""}, {"C[e]-=", "e", ""}, {"C[e]-=", "ee", ""}, {"C[e]-=", "eve", "2"}, {"C[e]-=", "be", "1"}, {"C[e]-=", "bee", ""},
		{"[a]=", "a", "0"}, {"[a]=", "aaa", "012"}, {"[a]=", "bab", "1"}, {"[a]=", "b", ""}, {"[aa]=", "aaa", "01"}, {"[aa]=", "a", ""}, {"[abcd]=", "abcd", "0"}, {"[abcd]=", "abc", ""}, {"[abcd]=", "xabcdabcd", "15"}, {"[ab]=", "aab", "1"},
		// Letters stand for themselves, v and c too.
		{"b[a]=", "ba", "1"}, {"b[a]=", "a", ""}, {"b[a]=", "ca", ""}, {"[a]b=", "ab", "0"}, {"[a]b=", "a", ""}, {"[a]b=", "ac", ""}, {"v[a]=", "va", "1"}, {"v[a]=", "ea", ""}, {"c[a]=", "ca", "1"}, {"c[a]=", "ba", ""}, {"[a]v=", "ae", ""}, {"[a]c=", "ab", ""}, {"[a]v=", "av", "0"}, {"[a]c=", "ac", "0"},
		// The nearest sign of Before is the last one, that of After the first one.
		{"bc[a]=", "bca", "2"}, {"bc[a]=", "cba", ""}, {"[a]bc=", "abc", "0"}, {"[a]bc=", "acb", ""}, {"bcd[a]=", "bcda", "3"}, {"bcd[a]=", "dcba", ""}, {"[a]bcd=", "abcd", "0"}, {"[a]bcd=", "adcb", ""}, {"VC[a]=", "eba", "2"}, {"VC[a]=", "bea", ""}, {"CV[a]=", "bea", "2"}, {"[a]VC=", "aeb", "0"}, {"[a]VC=", "abe", ""}, {"b[a]c=", "bac", "1"}, {"b[a]c=", "cab", ""},
		// Vowels and consonants.
		{"V[b]=", "abebibobubyb", "13579b"}, {"C[a]=", "babcadafaga", "1468a"}, {"[b]V=", "babebibobuby", "02468a"}, {"[a]C=", "abacadafagah", "02468a"}, {"C[a]=", "aaa", ""}, {"C[a]=", "ya", ""}, {"C[a]=", "wa", "1"}, {"V[a]=", "ya", "1"}, {"V[a]=", "wa", ""}, {"VVV[b]=", "aeib", "3"}, {"VVV[b]=", "aeb", ""}, {"VVV[b]=", "abib", ""}, {"CCC[a]=", "bcda", "3"}, {"[a]CCC=", "abcd", "0"}, {"[a]CCC=", "abc", ""},
		// A Before that is longer than what is before, and an After that is longer than what is behind.
		{"V[a]=", "a", ""}, {"C[a]=", "a", ""}, {"bb[a]=", "ba", ""}, {"bbb[a]=", "bba", ""}, {"CC[a]=", "ba", ""}, {"[a]V=", "a", ""}, {"[a]C=", "a", ""}, {"[a]bb=", "ab", ""}, {"[a]bbb=", "abb", ""}, {"[a]CC=", "ab", ""}, {"CV[a]=", "ea", ""},
		// Ends of words, and what is behind them.
		{"-[a]=", "aaa", "0"}, {"-[a]=", "ba", ""}, {"--[a]=", "aaa", "0"}, {"---[a]=", "aaa", "0"}, {"---[a]=", "ba", ""}, {"[a]-=", "aaa", "2"}, {"[a]-=", "ab", ""}, {"[a]--=", "aaa", "2"}, {"[a]---=", "aaa", "2"}, {"[a]---=", "ab", ""}, {"-[a]-=", "a", "0"}, {"---[a]---=", "a", "0"}, {"-[a]-=", "aa", ""}, {"-[aa]-=", "aa", "0"},
		{"-b[a]=", "ba", "1"}, {"-b[a]=", "bba", ""}, {"--b[a]=", "ba", "1"}, {"-bb[a]=", "bba", "2"}, {"-bb[a]=", "ba", ""}, {"--b[a]=", "bba", ""}, {"[a]b-=", "ab", "0"}, {"[a]b-=", "abb", ""}, {"[a]b--=", "ab", "0"}, {"[a]bb-=", "abb", "0"}, {"[a]bb-=", "ab", ""}, {"-V[b]=", "ab", "1"}, {"-C[b]=", "ab", ""}, {"[b]V-=", "ba", "0"}, {"[b]C-=", "ba", ""},
		// Nothing but ends is behind an end: these rules never match.
		{"b-[a]=", "ba", ""}, {"b-[a]=", "a", ""}, {"V-[a]=", "a", ""}, {"V-[a]=", "ea", ""}, {"C-[a]=", "ba", ""}, {"-b-[a]=", "ba", ""}, {"-b-[a]=", "a", ""}, {"b--[a]=", "a", ""}, {"[a]-b=", "ab", ""}, {"[a]-b=", "a", ""}, {"[a]-V=", "a", ""}, {"[a]-V=", "ae", ""}, {"[a]-C=", "ab", ""}, {"[a]-b-=", "ab", ""}, {"[a]-b-=", "a", ""}, {"[a]--b=", "a", ""}, {"[a]b-b=", "abb", ""}, {"b-b[a]=", "bba", ""},
	} {
		r, ok := toldRule(c.rule)
		if !ok {
			t.Fatalf("%s is no rule", c.rule)
		}
		for at := range len(c.word) {
			want := strings.Contains(c.at, string("0123456789abcdefghijklmn"[at]))
			wantBool(t, fmt.Sprintf("MatchesAt %s %s %d", c.rule, c.word, at), impl.MatchesAt(r, c.word, int64(at)), want)
		}
		for _, at := range farIndices(c.word) {
			if at < 0 || at >= int64(len(c.word)) {
				wantBool(t, fmt.Sprintf("MatchesAt %s %s %d", c.rule, c.word, at), impl.MatchesAt(r, c.word, at), false)
			}
		}
	}
}

// All Befores and Afters of some signs, beside all short words of some letters.
func TestMatchesAtOfAllSigns(t *testing.T) {
	words := []string{}
	for _, word := range signRows("abv", 4) {
		if word != "" {
			words = append(words, word)
		}
	}
	check := func(r impl.Rule, word string) {
		for at := -1; at <= len(word); at++ {
			got, want := impl.MatchesAt(r, word, int64(at)), fitsAt(r, word, at)
			if got != want {
				t.Errorf("MatchesAt %s %s %d: got %v, want %v", textOfRule(r), word, at, got, want)
			}
		}
	}
	rows := signRows("avVC-", 3)
	for k, row := range rows {
		for n, word := range words {
			letters := []string{"a", "b", "ab", "ba"}[(k+n)%4]
			check(ruleOf(row, letters, "", ""), word)
			check(ruleOf("", letters, row, ""), word)
			check(ruleOf(row, letters, rows[(7*k+n)%len(rows)], "a"), word)
		}
	}
}

func TestMatchesAtOfRandomRules(t *testing.T) {
	r := rand.New(rand.NewSource(3))
	matched := 0
	for range 20000 {
		word := randomWord(r, "abeiszvc", 1, 24)
		at := r.Intn(len(word))
		// Letters that stand there, so that it depends on the signs.
		letters := word[at:min(len(word), at+1+r.Intn(4))]
		rule := ruleOf(randomWord(r, "VC-aeb", 0, 3), letters, randomWord(r, "VC-aeb", 0, 3), "")
		got, want := impl.MatchesAt(rule, word, int64(at)), fitsAt(rule, word, at)
		if got != want {
			t.Errorf("MatchesAt %s %s %d: got %v, want %v", textOfRule(rule), word, at, got, want)
		}
		if got {
			matched++
		}
	}
	if matched < 1000 {
		t.Errorf("only %d rules matched", matched)
	}
}

func TestMatchesAtOfWhatIsNotValid(t *testing.T) {
	for _, r := range badRules() {
		for _, word := range []string{"a", "aa", "bab", "aab", "aba", "abcde", "abcdef"} {
			for at := range len(word) {
				wantBool(t, fmt.Sprintf("MatchesAt %q %s %d", r, word, at), impl.MatchesAt(r, word, int64(at)), false)
			}
		}
	}
	for _, word := range badWords() {
		for _, text := range []string{"[a]=", "[ab]=", "[a]-=", "-[a]=", "V[a]=", "[a]C=", "[b]="} {
			r, _ := toldRule(text)
			for at := -1; at <= min(len(word), 30); at++ {
				wantBool(t, fmt.Sprintf("MatchesAt %s %q %d", text, word, at), impl.MatchesAt(r, word, int64(at)), false)
			}
		}
	}
	// A rule, a word and an index that are those of the word itself.
	wantBool(t, "MatchesAt of a whole word of 24 letters", impl.MatchesAt(ruleOf("", "abab", "-", ""), strings.Repeat("ab", 12), 20), true)
	wantBool(t, "MatchesAt of a word of 25 letters", impl.MatchesAt(ruleOf("", "a", "", ""), strings.Repeat("a", 25), 0), false)
}

// takenRules tells which rules are taken, without the program's help.
func takenRules(rules []impl.Rule, word string) ([]int64, bool) {
	taken := []int64{}
	at := 0
	for at < len(word) {
		next := -1
		for k := len(rules) - 1; k >= 0; k-- {
			if fitsAt(rules[k], word, at) {
				next = k
			}
		}
		if next < 0 {
			return nil, false
		}
		taken = append(taken, int64(next))
		at += len(rules[next].Letters)
	}
	return taken, true
}

func TestRulesFor(t *testing.T) {
	for _, c := range []struct {
		rules, word string
		want        []int64 // or nil if it fails
		names       string
	}{
		{"C[e]-= [th]=dh.a [a]=a [d]=d [e]=e [h]=h [m]=m [t]=t", "the", []int64{1, 0}, "dh-a"}, {"C[e]-= [th]=dh.a [a]=a [d]=d [e]=e [h]=h [m]=m [t]=t", "them", []int64{1, 4, 6}, "dh-a-e-m"}, {"C[e]-= [th]=dh.a [a]=a [d]=d [e]=e [h]=h [m]=m [t]=t", "made", []int64{6, 2, 3, 0}, "m-a-d"}, {"[a]=a", "a", []int64{0}, "a"}, {"[a]=", "a", []int64{0}, ""}, {"[a]=", "aaa", []int64{0, 0, 0}, ""}, {"[a]=x.y", "aa", []int64{0, 0}, "x-y-x-y"}, {"[aa]=x [a]=y", "aaaaa", []int64{0, 0, 1}, "x-x-y"},
		// The first rule that matches is taken, also where another one is longer, or goes on better.
		{"[a]=x [ab]=y [b]=z", "ab", []int64{0, 2}, "x-z"}, {"[ab]=y [a]=x [b]=z", "ab", []int64{0}, "y"}, {"[ab]=y [a]=x [bc]=z", "abc", nil, ""}, {"[a]=x [a]=y", "aa", []int64{0, 0}, "x-x"}, {"[a]b=x [a]=y [b]=z", "aab", []int64{1, 0, 2}, "y-x-z"}, {"[a]=y [a]b=x [b]=z", "aab", []int64{0, 0, 2}, "y-y-z"}, {"-[a]=x [a]-=y [a]=z", "aaa", []int64{0, 2, 1}, "x-z-y"}, {"[a]-=y -[a]=x [a]=z", "a", []int64{0}, "y"},
		// Rules look at the word, not at what is taken.
		{"[ab]=x b[c]=y [c]=z", "abc", []int64{0, 1}, "x-y"}, {"[a]bc=x [b]=y [c]=z", "abc", []int64{0, 1, 2}, "x-y-z"}, {"aa[a]=x [aa]=y [a]=z", "aaaaa", []int64{1, 0, 0, 0}, "y-x-x-x"}, {"-b[a]=x [b]= [a]=y", "bab", []int64{1, 0, 1}, "x"},
		// None matches at the first, in the middle, and at the last letter.
		{"[b]=b [c]=c", "abc", nil, ""}, {"[a]=a [c]=c", "abc", nil, ""}, {"[a]=a [b]=b", "abc", nil, ""}, {"[a]=a", "b", nil, ""}, {"[aa]=a", "aaa", nil, ""}, {"[aa]=a", "aaaa", []int64{0, 0}, "a-a"}, {"[a]b=a [b]=b", "aba", nil, ""}, {"b-[a]=a a-[b]=b", "ab", nil, ""}, {"[abcd]=a", "abc", nil, ""}, {"[abcd]=abcd.abcd.abcd.abcd.abcd", "abcdabcd", []int64{0, 0}, "abcd-abcd-abcd-abcd-abcd-abcd-abcd-abcd-abcd-abcd"},
	} {
		rules := toldRules(c.rules)
		what := c.rules + " of " + c.word
		taken, ok := impl.RulesFor(rules, c.word)
		names, okNames := impl.SoundsOf(rules, c.word)
		spelled, okSpelled := impl.SpellText(rules, c.word)
		if c.want == nil {
			wantNoList(t, "RulesFor "+what, taken, ok)
			wantNoList(t, "SoundsOf "+what, names, okNames)
			wantNoList(t, "SpellText "+what, spelled, okSpelled)
			continue
		}
		wantIndices(t, "RulesFor "+what, taken, ok, c.want...)
		wantNames(t, "SoundsOf "+what, names, okNames, c.names)
		wantNames(t, "SpellText "+what, spelled, okSpelled, c.names)
	}
}

func TestRulesForRandomWords(t *testing.T) {
	r := rand.New(rand.NewSource(4))
	failed, done := 0, 0
	for range 3000 {
		rules := []impl.Rule{}
		for range 1 + r.Intn(20) {
			rules = append(rules, ruleOf(randomWord(r, "VC-ab", 0, 1), randomWord(r, "abc", 1, 2), randomWord(r, "VC-ab", 0, 1), randomWord(r, "xyz", 0, 3)))
		}
		for range 3 {
			word := randomWord(r, "abc", 1, 10)
			got, ok := impl.RulesFor(rules, word)
			want, is := takenRules(rules, word)
			if ok != is || fmt.Sprint(got) != fmt.Sprint(want) {
				t.Errorf("RulesFor %q %s: got %v %v, want %v %v", rules, word, got, ok, want, is)
			}
			names := []string{}
			for _, k := range want {
				if sounds := rules[k].Sounds; sounds != "" {
					names = append(names, strings.Split(sounds, ".")...)
				}
			}
			sounds, ok := impl.SoundsOf(rules, word)
			if ok != is || fmt.Sprint(sounds) != fmt.Sprint(names) {
				t.Errorf("SoundsOf %q %s: got %q %v, want %q %v", rules, word, sounds, ok, names, is)
			}
			if is {
				done++
			} else {
				failed++
			}
		}
	}
	if failed < 1000 || done < 1000 {
		t.Errorf("%d words could be read, and %d could not", done, failed)
	}
}

func TestRulesAtTheirLimits(t *testing.T) {
	rest := ruleOf("", "zz", "", "z")
	for _, c := range []struct {
		rules []impl.Rule
		ok    bool
	}{{nil, false}, {[]impl.Rule{}, false}, {[]impl.Rule{ruleOf("", "a", "", "x")}, true}, {append(repeat(rest, 47), ruleOf("", "a", "", "x")), true}, {append(repeat(rest, 48), ruleOf("", "a", "", "x")), false}, {append(repeat(rest, 300), ruleOf("", "a", "", "x")), false}, {append([]impl.Rule{ruleOf("", "a", "", "x")}, repeat(rest, 47)...), true}, {append([]impl.Rule{ruleOf("", "a", "", "x")}, repeat(rest, 48)...), false}} {
		what := fmt.Sprint(len(c.rules), " rules")
		taken, ok := impl.RulesFor(c.rules, "a")
		names, okNames := impl.SoundsOf(c.rules, "a")
		spelled, okSpelled := impl.SpellText(c.rules, "a")
		if c.ok {
			at := int64(0)
			for c.rules[at].Letters != "a" {
				at++
			}
			wantIndices(t, "RulesFor with "+what, taken, ok, at)
			wantNames(t, "SoundsOf with "+what, names, okNames, "x")
			wantNames(t, "SpellText with "+what, spelled, okSpelled, "x")
			continue
		}
		wantNoList(t, "RulesFor with "+what, taken, ok)
		wantNoList(t, "SoundsOf with "+what, names, okNames)
		wantNoList(t, "SpellText with "+what, spelled, okSpelled)
	}
	// Words of 24 letters, and of one more.
	long := strings.Repeat("ab", 12)
	taken, ok := impl.RulesFor(toldRules("[abab]=a"), long)
	wantIndices(t, "RulesFor a word of 24 letters", taken, ok, 0, 0, 0, 0, 0, 0)
	taken, ok = impl.RulesFor(toldRules("[ab]=a [a]=b"), long+"a")
	wantNoList(t, "RulesFor a word of 25 letters", taken, ok)
}

func TestRulesThatAreNotValid(t *testing.T) {
	for _, rules := range badRuleLists() {
		what := fmt.Sprintf("%d rules, the first one %q, the last one %q", len(rules), rules[0], rules[len(rules)-1])
		for _, word := range []string{"a", "made"} {
			taken, ok := impl.RulesFor(rules, word)
			wantNoList(t, "RulesFor with "+what, taken, ok)
			names, ok := impl.SoundsOf(rules, word)
			wantNoList(t, "SoundsOf with "+what, names, ok)
			names, ok = impl.SpellText(rules, word)
			wantNoList(t, "SpellText with "+what, names, ok)
		}
		dead, ok := impl.DeadRules(rules)
		wantNoList(t, "DeadRules of "+what, dead, ok)
	}
	for _, word := range badWords() {
		taken, ok := impl.RulesFor(impl.PlainRules(), word)
		wantNoList(t, fmt.Sprintf("RulesFor %q", word), taken, ok)
		names, ok := impl.SoundsOf(impl.PlainRules(), word)
		wantNoList(t, fmt.Sprintf("SoundsOf %q", word), names, ok)
	}
}

// textOf returns a text of so many bytes, whose words have 24 letters each, but the last one.
func textOf(bytes int) string {
	return strings.Repeat(strings.Repeat("a", 24)+" ", 12)[:bytes]
}

func TestSpellText(t *testing.T) {
	const rules = "[th]=dh.a -[b]-= [a]=a [b]=b [t]=t C[e]-= [e]=e [h]=h"
	for _, c := range []struct {
		text, want string
	}{
		{"he at", "h-rest-a-t"}, {"a", "a"}, {"a a", "a-rest-a"}, {"the", "dh-a"}, {"the bat", "dh-a-rest-b-a-t"}, {"bathe tab", "b-a-dh-a-rest-t-a-b"}, {"a b a", "a-rest-rest-a"}, {"b", ""}, {"b b", "rest"}, {"b b b", "rest-rest"}, {"b a", "rest-a"}, {"a b", "a-rest"}, {"ba ab", "b-a-rest-a-b"},
		// Ends of words are at the blanks.
		{"e e", "e-rest-e"}, {"he he", "h-rest-h"}, {"heb b eb", "h-e-b-rest-rest-e-b"}, {"at he at", "a-t-rest-h-rest-a-t"},
	} {
		got, ok := impl.SpellText(toldRules(rules), c.text)
		wantNames(t, "SpellText "+c.text, got, ok, c.want)
	}
	// A text of words that have 24 letters, and one of words that have one.
	many := strings.Repeat("a ", 127) + "a"
	for _, text := range []string{textOf(256), textOf(255), textOf(24), textOf(249), many, many + "a"} {
		got, ok := impl.SpellText(impl.PlainRules(), text)
		names := []string{}
		for _, letter := range text {
			names = append(names, strings.ReplaceAll(string(letter), " ", "rest"))
		}
		wantNames(t, "SpellText "+text, got, ok, strings.Join(names, "-"))
	}
}

func TestSpellTextThatFails(t *testing.T) {
	texts := []string{"", " ", "  ", "a ", " a", " a a", "a a ", "a  a", "a  b", "a   a", "a\ta", "a\na", "a a\n", "a\u00a0a", "a, a", "a.", "A a", "a B", "a-a", "a ä", "\xff a", "a \xff", "a \xff a", textOf(25) + " a", strings.Repeat("a", 25), "a " + strings.Repeat("a", 25), strings.Repeat("a", 25) + " a", textOf(256) + "a", textOf(256) + " a", textOf(250), textOf(25), strings.Repeat("a ", 128) + "a", strings.Repeat("a ", 128), strings.Repeat("a ", 1000) + "a", "a V", "a -", "- a", "a . a", "a 1"}
	for _, text := range texts {
		got, ok := impl.SpellText(impl.PlainRules(), text)
		wantNoList(t, fmt.Sprintf("SpellText %q", text), got, ok)
	}
	// One word that none of the rules reads, in each place.
	for _, text := range []string{"c", "c a", "a c", "a c a", "a ac", "ca a", "aca"} {
		got, ok := impl.SpellText(toldRules("[a]=a [b]=b"), text)
		wantNoList(t, "SpellText "+text, got, ok)
	}
	for _, s := range foreignBytes() {
		for _, text := range []string{s, "a " + s, s + " a", "a " + s + " a", "a" + s} {
			if s == " " {
				text += " "
			}
			got, ok := impl.SpellText(impl.PlainRules(), text)
			wantNoList(t, fmt.Sprintf("SpellText %q", text), got, ok)
		}
	}
}

func TestDeadRules(t *testing.T) {
	for _, c := range []struct {
		rules string
		want  []int64
	}{
		{"", nil}, {"[a]=", nil}, {"[t]= [th]= [a]=", []int64{1}}, {"[a]= [a]=", []int64{1}}, {"[a]=x [a]=y [a]=z", []int64{1, 2}}, {"[th]= [t]=", nil}, {"[a]= [b]=", nil}, {"[a]= [ba]=", nil}, {"[a]= [ab]= [abc]= [abcd]= [b]=", []int64{1, 2, 3}}, {"[ab]= [a]= [ac]= [abc]=", []int64{2, 3}}, {"[abcd]= [abc]= [ab]= [a]=", nil}, {"[abcd]= [abcd]= [abce]=", []int64{1}},
		// Those behind have any Before and After, but the one before has none.
		{"[a]= b[a]=", []int64{1}}, {"[a]= [a]b=", []int64{1}}, {"[a]= -[ab]C=", []int64{1}}, {"b[a]= [a]=", nil}, {"[a]b= [a]=", nil}, {"-[a]= [a]=", nil}, {"[a]-= [a]=", nil}, {"V[a]C= [ab]= [a]=", nil}, {"b[a]= b[a]=", nil}, {"[a]b= [a]b=", nil}, {"b[a]b= b[a]b=", nil}, {"b[a]= [a]= b[a]=", []int64{2}}, {"[a]b= [a]= [a]b=", []int64{2}}, {"b[a]= [a]b= [ab]= [a]=", nil},
		// Rules that can never be taken for another reason are not dead.
		{"b-[a]= [a]-b=", nil}, {"-[a]= --[a]=", nil}, {"V[a]= C[a]= -[a]= [a]=", nil},
		// One of several before is enough, and it may be dead itself.
		{"[b]= [a]= [c]= [ad]= [bd]= [d]=", []int64{3, 4}}, {"[a]= [ab]= [abc]=", []int64{1, 2}}, {"b[a]= [ab]= [abc]= [a]= [aa]=", []int64{2, 4}},
	} {
		got, ok := impl.DeadRules(toldRules(c.rules))
		wantIndices(t, "DeadRules "+c.rules, got, ok, c.want...)
	}
	got, ok := impl.DeadRules(repeat(ruleOf("", "a", "", ""), 48))
	want := []int64{}
	for k := int64(1); k < 48; k++ {
		want = append(want, k)
	}
	wantIndices(t, "DeadRules of 48 equal rules", got, ok, want...)
	got, ok = impl.DeadRules(repeat(ruleOf("", "a", "", ""), 49))
	wantNoList(t, "DeadRules of 49 equal rules", got, ok)
	got, ok = impl.DeadRules(impl.PlainRules())
	wantIndices(t, "DeadRules of PlainRules", got, ok)
}

// Rules that are dead are never taken.
func TestDeadRulesAreNotTaken(t *testing.T) {
	r := rand.New(rand.NewSource(5))
	found := 0
	for range 500 {
		rules := []impl.Rule{}
		for range 1 + r.Intn(12) {
			rules = append(rules, ruleOf(randomWord(r, "VC-", 0, 1), randomWord(r, "ab", 1, 3), randomWord(r, "VC-", 0, 1), ""))
		}
		dead, ok := impl.DeadRules(rules)
		isDead := map[int64]bool{}
		for n, k := range dead {
			isDead[k] = true
			if n > 0 && dead[n-1] >= k {
				t.Errorf("DeadRules %q: %v is not increasing", rules, dead)
			}
		}
		found += len(dead)
		if !ok {
			t.Errorf("DeadRules %q failed", rules)
		}
		for range 20 {
			word := randomWord(r, "ab", 1, 8)
			taken, _ := impl.RulesFor(rules, word)
			for _, k := range taken {
				wantBool(t, fmt.Sprintf("%d of %q is dead, and taken for %s", k, rules, word), isDead[k], false)
			}
		}
	}
	if found < 500 {
		t.Errorf("only %d rules were dead", found)
	}
}
