package tests

import (
	"fmt"
	"math"
	"math/rand"
	"strings"
	"testing"

	"loop.example/g01279/impl"
)

// randomRules returns valid rules, some of which have signs beside their letters.
func randomRules(r *rand.Rand, count int) []impl.Rule {
	rules := []impl.Rule{}
	for range count {
		names := []string{}
		for range r.Intn(4) {
			names = append(names, randomWord(r, "abcxyz", 1, 4))
		}
		rules = append(rules, ruleOf(randomWord(r, "VC-abc", 0, r.Intn(4)), randomWord(r, "abce", 1, 3), randomWord(r, "VC-abc", 0, r.Intn(4)), strings.Join(names, ".")))
	}
	return rules
}

// Rules that are taken match where they are taken, none before them does, and their letters are the word.
func TestRulesThatAreTakenMatchAndCoverTheirWord(t *testing.T) {
	r := rand.New(rand.NewSource(10))
	for range 3000 {
		rules := append(randomRules(r, r.Intn(22)), impl.PlainRules()...)
		word := randomWord(r, "abcde", 1, 24)
		taken, ok := impl.RulesFor(rules, word)
		if !ok {
			t.Fatalf("RulesFor %q %s failed", rules, word)
		}
		at, names := 0, []string{}
		for _, k := range taken {
			what := fmt.Sprintf("%q, taken for %s at %d,", rules[k], word, at)
			wantBool(t, what+" matches", impl.MatchesAt(rules[k], word, int64(at)) && fitsAt(rules[k], word, at), true)
			for _, before := range rules[:k] {
				wantBool(t, fmt.Sprintf("%s and %q before it matches", what, before), impl.MatchesAt(before, word, int64(at)), false)
			}
			wantBool(t, what+" covers what is there", strings.HasPrefix(word[at:], rules[k].Letters), true)
			at += len(rules[k].Letters)
			if rules[k].Sounds != "" {
				names = append(names, strings.Split(rules[k].Sounds, ".")...)
			}
		}
		if at != len(word) {
			t.Errorf("RulesFor %q %s: %v covers %d letters", rules, word, taken, at)
		}
		got, ok := impl.SoundsOf(rules, word)
		wantNames(t, "SoundsOf "+word, got, ok, strings.Join(names, "-"))
	}
}

// A text is spelled as its words are, one after another.
func TestTextsAreSpelledAsTheirWords(t *testing.T) {
	r := rand.New(rand.NewSource(11))
	for range 1000 {
		rules := append(randomRules(r, r.Intn(22)), impl.PlainRules()...)
		words, want := []string{}, []string{}
		for k := range 1 + r.Intn(10) {
			word := randomWord(r, "abcde", 1, 24)
			names, ok := impl.SoundsOf(rules, word)
			if !ok {
				t.Fatalf("SoundsOf %q %s failed", rules, word)
			}
			if k > 0 {
				want = append(want, "rest")
			}
			words, want = append(words, word), append(want, names...)
		}
		text := strings.Join(words, " ")
		got, ok := impl.SpellText(rules, text)
		wantNames(t, "SpellText "+text, got, ok, strings.Join(want, "-"))
	}
}

// Rules are read from their texts, and matching goes on as before.
func TestRulesAreReadAsTheyWereTold(t *testing.T) {
	r := rand.New(rand.NewSource(12))
	for _, rule := range randomRules(r, 5000) {
		text, ok := impl.RuleText(rule)
		wantText(t, fmt.Sprintf("RuleText %q", rule), text, ok, textOfRule(rule))
		back, ok := impl.ReadRule(text)
		wantRule(t, "ReadRule "+text, back, ok, rule)
	}
}

func randomBlocks(r *rand.Rand, count, most int) []impl.Block {
	list := []impl.Block{}
	for range count {
		b := impl.Block{Time: int64(r.Uint32())}
		bits := r.Uint32()
		for range 1 + r.Intn(most) {
			bits += uint32(int32(r.Uint32()) >> r.Intn(32))
			b.Values = append(b.Values, math.Float32frombits(bits))
		}
		list = append(list, b)
	}
	return list
}

// Blocks are loaded as they were stored, to the last bit, one by one and together.
func TestBlocksAreLoadedAsTheyWereStored(t *testing.T) {
	r := rand.New(rand.NewSource(13))
	for range 500 {
		list := randomBlocks(r, r.Intn(9), 40)
		for _, b := range list {
			s, ok := impl.StoreBlock(b)
			wantText(t, "StoreBlock "+blockText(b), s, ok, storedBlock(b))
			back, ok := impl.LoadBlock(s)
			wantBlock(t, fmt.Sprintf("LoadBlock %x", s), back, ok, b)
			wantBool(t, "SameBlock "+blockText(b), impl.SameBlock(b, back), true)
			again, ok := impl.StoreBlock(back)
			wantText(t, "StoreBlock again "+blockText(b), again, ok, s)
		}
		s, ok := impl.StoreBlocks(list)
		wantText(t, "StoreBlocks "+blocksText(list), s, ok, storedBlocks(list))
		wantRecovered(t, "all", s, list)
		// Files that are cut or changed lose no block before.
		at := r.Intn(len(s) + 1)
		whole := 0
		for whole < len(list) && len(storedBlocks(list[:whole+1])) <= at {
			whole++
		}
		wantRecovered(t, "cut", s[:at], list[:whole])
		if at < len(s) {
			wantRecovered(t, "changed", s[:at]+string([]byte{s[at] ^ byte(1+r.Intn(255))})+s[at+1:], list[:whole])
		}
	}
}

// Each number of 32 bits, as far as it is tried, is unpacked as it was packed, behind any other one.
func TestNumbersAreUnpackedAsTheyWerePacked(t *testing.T) {
	r := rand.New(rand.NewSource(14))
	for range 500 {
		values := []float32{}
		for range 256 {
			values = append(values, math.Float32frombits(r.Uint32()))
		}
		s, ok := impl.PackValues(values)
		wantText(t, "PackValues of random numbers", s, ok, packedValues(values...))
		back, ok := impl.UnpackValues(s)
		wantNumbers(t, "UnpackValues of random numbers", back, ok, bitsText(values))
	}
}

func TestExamplesOfLetters(t *testing.T) {
	r, _ := impl.ReadRule("C[e]-=")
	wantBool(t, "the rule C[e]-= matches the word made at 3", impl.MatchesAt(r, "made", 3), true)
	words, ok := impl.NumberWords(120005)
	wantText(t, "the number 120005", words, ok, "one hundred twenty thousand five")
	packed, ok := impl.PackValues([]float32{0, 0, minus0})
	wantText(t, "the values 0, 0, -0", packed, ok, string([]byte{0, 0, 255, 255, 255, 255, 15}))
}
