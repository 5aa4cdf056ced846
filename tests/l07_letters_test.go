package tests

import (
	"fmt"
	"math/rand"
	"regexp"
	"slices"
	"strings"
	"testing"

	"loop.example/g01279/impl"
)

func TestIsVowel(t *testing.T) {
	for b := range 256 {
		s := string([]byte{byte(b)})
		wantBool(t, fmt.Sprintf("IsVowel %q", s), impl.IsVowel(s), strings.Contains("a e i o u y", s) && s != " ")
	}
	for _, s := range []string{"", "ae", "aa", "a ", " a", "ab", "a\x00", "é", "ä", "\u0430", "aeiouy", "ａ", strings.Repeat("a", 300)} {
		wantBool(t, fmt.Sprintf("IsVowel %q", s), impl.IsVowel(s), false)
	}
}

func TestSyllablesIn(t *testing.T) {
	for word, want := range map[string]int64{
		"a": 1, "e": 1, "i": 1, "o": 1, "u": 1, "y": 1, "b": 0, "z": 0, "w": 0, "aa": 1, "ab": 1, "ba": 1, "bb": 0, "aba": 2, "bab": 1, "abba": 2, "beauty": 2, "queue": 1, "banana": 3, "rhythm": 1, "rhymes": 2, "crwth": 0, "made": 2, "aeiouy": 1, "yoyo": 1, "aeb": 1, "baeiou": 1, "eye": 1, "iambic": 2, "obobo": 3,
		strings.Repeat("a", 24): 1, strings.Repeat("b", 24): 0, strings.Repeat("ab", 12): 12, strings.Repeat("ba", 12): 12, strings.Repeat("bay", 8): 8, "bcdfghjklmnpqrstvwxz": 0, "abecidofugyh": 6, strings.Repeat("b", 23) + "a": 1, "a" + strings.Repeat("b", 22) + "a": 2,
	} {
		got, ok := impl.SyllablesIn(word)
		if !ok || got != want {
			t.Errorf("SyllablesIn %q: got %d %v, want %d", word, got, ok, want)
		}
	}
	for _, word := range badWords() {
		got, ok := impl.SyllablesIn(word)
		wantFailed(t, fmt.Sprintf("SyllablesIn %q", word), got, ok)
	}
}

func TestSyllablesInRandomWords(t *testing.T) {
	groups := regexp.MustCompile("[aeiouy]+")
	r := rand.New(rand.NewSource(1))
	for range 3000 {
		word := randomWord(r, "abcdefghijklmnopqrstuvwxyz", 1, 24)
		got, ok := impl.SyllablesIn(word)
		if want := len(groups.FindAllString(word, -1)); !ok || got != int64(want) {
			t.Errorf("SyllablesIn %q: got %d %v, want %d", word, got, ok, want)
		}
	}
}

// Each byte alone is a letter, a sign or a name only if it is one.
func TestValidRulesOfEachByte(t *testing.T) {
	for b := range 256 {
		s := string([]byte{byte(b)})
		letter := b >= 'a' && b <= 'z'
		sign := letter || s == "V" || s == "C" || s == "-"
		for _, c := range []struct {
			r    impl.Rule
			want bool
		}{
			{ruleOf("", s, "", ""), letter}, {ruleOf("", "a"+s, "", ""), letter}, {ruleOf("", s+"abc", "", ""), letter}, {ruleOf("", "abc"+s, "", ""), letter},
			{ruleOf(s, "a", "", ""), sign}, {ruleOf("aa"+s, "a", "", ""), sign}, {ruleOf(s+"-V", "a", "", ""), sign}, {ruleOf("", "a", s, ""), sign}, {ruleOf("", "a", "C-"+s, ""), sign}, {ruleOf("", "a", s+"aa", ""), sign},
			{ruleOf("", "a", "", s), letter}, {ruleOf("", "a", "", "abc"+s), letter}, {ruleOf("", "a", "", "a."+s), letter}, {ruleOf("", "a", "", s+".a"), letter}, {ruleOf("", "a", "", "a"+s+"b"), letter || s == "."},
		} {
			wantBool(t, fmt.Sprintf("ValidRule %q", c.r), impl.ValidRule(c.r), c.want)
		}
	}
}

func TestValidRule(t *testing.T) {
	for _, r := range goodRules() {
		wantBool(t, fmt.Sprintf("ValidRule %q", r), impl.ValidRule(r), true)
	}
	for _, r := range badRules() {
		wantBool(t, fmt.Sprintf("ValidRule %q", r), impl.ValidRule(r), false)
	}
}

func TestRuleText(t *testing.T) {
	for _, c := range []struct {
		r    impl.Rule
		want string
	}{
		{ruleOf("C", "e", "-", ""), "C[e]-="}, {ruleOf("", "a", "", ""), "[a]="}, {ruleOf("", "a", "", "a"), "[a]=a"}, {ruleOf("V", "th", "CV-", "dh.a"), "V[th]CV-=dh.a"}, {ruleOf("--a", "abcd", "", "abcd.abcd.abcd.abcd.abcd"), "--a[abcd]=abcd.abcd.abcd.abcd.abcd"}, {ruleOf("", "z", "zzz", "z"), "[z]zzz=z"},
	} {
		got, ok := impl.RuleText(c.r)
		wantText(t, fmt.Sprintf("RuleText %q", c.r), got, ok, c.want)
		back, ok := impl.ReadRule(c.want)
		wantRule(t, "ReadRule "+c.want, back, ok, c.r)
	}
	for _, r := range goodRules() {
		got, ok := impl.RuleText(r)
		wantText(t, fmt.Sprintf("RuleText %q", r), got, ok, textOfRule(r))
		back, ok := impl.ReadRule(textOfRule(r))
		wantRule(t, "ReadRule "+textOfRule(r), back, ok, r)
	}
	for _, r := range badRules() {
		got, ok := impl.RuleText(r)
		wantFailed(t, fmt.Sprintf("RuleText %q", r), got, ok)
		back, ok := impl.ReadRule(textOfRule(r))
		wantFailed(t, fmt.Sprintf("ReadRule %q", textOfRule(r)), back, ok)
	}
}

func TestReadRuleOfOtherTexts(t *testing.T) {
	for _, text := range []string{
		"", " ", "=", "[", "]", "[]", "[]=", "a", "a=", "[a]", "[a", "a]", "[a=", "a]=", "[a]a", "[a]-", "[a]-a", "]a[=", "=[a]", "=[a]=", "[a=]", "[=a]", "[[a]=", "[a]]=", "[[a]]=", "][a]=", "a[[b]=", "[a][b]=", "[a]b[=", "[a]b]=", "[a]==", "[a]=a=", "[a]=a=b", "[a]=[b]", "[a]=]", "=a[b]=", "a=[b]=c", "[a]=b=c", "[a][]=", "[][a]=",
		"[A]=a", "[a]=A", "[E]=", " [a]=a", "[a]=a ", "[ a]=a", "[a] =a", "[a]= a", "[a]=a\n", "\n[a]=a", "[a]=a\x00", "(a)=a", "{a}=a", "[a]:a", "[a]=a,b", "[a]=a-b", "[a]=.", "[a]=a.", "[a]=.a", "[a]=a..b", "[abcde]=a", "abcd[a]=a", "[a]abcd=a", "[a]=abcde", "[a]=abcd.abcd.abcd.abcd.abcd.", "[a]=abcd.abcd.abcd.abcd.ab.ab", "[ä]=", "ä[a]=", "[a]=ä", "\xff[a]=", "[\xff]=", "[a]\xff=", "[a]=\xff", "［a］=", "[a]＝a", strings.Repeat("[a]=", 100), strings.Repeat("[", 1000), strings.Repeat("=", 1000), strings.Repeat("a", 1000),
	} {
		got, ok := impl.ReadRule(text)
		wantFailed(t, fmt.Sprintf("ReadRule %q", text), got, ok)
	}
}

// Texts that differ from one of a rule in one place are read only if they are those of other rules.
func TestReadRuleOfChangedTexts(t *testing.T) {
	for _, text := range []string{"C[e]-=", "[a]=a", "V-C[abcd]aVC=abcd.a", "-[th]=dh.a", "abc[z]---=abcd.abcd.abcd.abcd.abcd"} {
		changed := []string{}
		for k := range len(text) + 1 {
			for _, s := range append(foreignBytes(), "a", "V", "C", "-", "") {
				changed = append(changed, text[:k]+s+text[k:])
				if k < len(text) {
					changed = append(changed, text[:k]+s+text[k+1:])
				}
			}
			changed = append(changed, text[:k], text[k:])
		}
		for _, other := range changed {
			got, ok := impl.ReadRule(other)
			want, is := toldRule(other)
			if ok != is || got != want {
				t.Errorf("ReadRule %q: got %q %v, want %q %v", other, got, ok, want, is)
			}
		}
	}
}

func TestSameRules(t *testing.T) {
	one := toldRules("C[e]-= [th]=dh.a [a]=a")
	for _, c := range []struct {
		a, b []impl.Rule
		want bool
	}{
		{nil, nil, true}, {nil, []impl.Rule{}, true}, {one, slices.Clone(one), true}, {one, one[:2], false}, {one[:2], one, false}, {one, nil, false}, {nil, one, false}, {one, one[1:], false},
		{one, []impl.Rule{one[0], one[2], one[1]}, false}, {one, []impl.Rule{one[1], one[0], one[2]}, false}, {one, append(slices.Clone(one), one[2]), false}, {[]impl.Rule{{}}, []impl.Rule{{}}, true}, {[]impl.Rule{{}}, nil, false}, {[]impl.Rule{{}, {}}, []impl.Rule{{}}, false},
		{repeat(one[0], 48), repeat(one[0], 48), true}, {repeat(one[0], 49), repeat(one[0], 49), true}, {repeat(one[0], 300), repeat(one[0], 300), true}, {repeat(one[0], 49), repeat(one[0], 48), false},
	} {
		wantBool(t, fmt.Sprintf("SameRules %q %q", c.a, c.b), impl.SameRules(c.a, c.b), c.want)
	}
	all := append(goodRules(), badRules()...)
	wantBool(t, "SameRules of rules of all kinds", impl.SameRules(all, slices.Clone(all)), true)
	for k, r := range all {
		for _, other := range []impl.Rule{ruleOf(r.Before+"a", r.Letters, r.After, r.Sounds), ruleOf(r.Before, r.Letters+"a", r.After, r.Sounds), ruleOf(r.Before, r.Letters, r.After+"a", r.Sounds), ruleOf(r.Before, r.Letters, r.After, r.Sounds+"a"), ruleOf(r.Letters+r.Before, "", r.After, r.Sounds)} {
			if other == r {
				continue
			}
			changed := slices.Clone(all)
			changed[k] = other
			wantBool(t, fmt.Sprintf("SameRules with %q and %q", r, other), impl.SameRules(all, changed) || impl.SameRules(changed, all), false)
		}
	}
	// Fields that are told in another place, but make the same text.
	wantBool(t, "SameRules of fields in other places", impl.SameRules([]impl.Rule{ruleOf("a", "b", "", "")}, []impl.Rule{ruleOf("", "b", "a", "")}), false)
	wantBool(t, "SameRules of V and v", impl.SameRules([]impl.Rule{ruleOf("V", "b", "", "")}, []impl.Rule{ruleOf("v", "b", "", "")}), false)
}

func TestPlainRules(t *testing.T) {
	rules := impl.PlainRules()
	if len(rules) != 26 {
		t.Fatalf("PlainRules: got %d rules", len(rules))
	}
	for k, r := range rules {
		letter := string([]byte{byte('a' + k)})
		wantRule(t, "PlainRules "+letter, r, true, ruleOf("", letter, "", letter))
	}
	for _, word := range goodWords() {
		taken, ok := impl.RulesFor(rules, word)
		want := []int64{}
		for _, letter := range word {
			want = append(want, int64(letter-'a'))
		}
		wantIndices(t, "RulesFor PlainRules "+word, taken, ok, want...)
		names, ok := impl.SoundsOf(rules, word)
		wantNames(t, "SoundsOf PlainRules "+word, names, ok, strings.Join(strings.Split(word, ""), "-"))
	}
}
