package tests

import (
	"fmt"
	"math"
	"slices"
	"strings"
	"sync"
	"testing"

	"loop.example/g01279/impl"
)

// letterCall has arguments of all functions of chapter 7.
type letterCall struct {
	s, word, text string
	r             impl.Rule
	rules, others []impl.Rule
	at            int64
	b, other      impl.Block
	blocks        []impl.Block
}

// letterResults tells the results of functions in a text, and checks that they are zero values where a function fails.
type letterResults struct {
	t    *testing.T
	text string
}

func (r *letterResults) told(name string, ok bool, result, zero string) {
	r.t.Helper()
	r.text += fmt.Sprintln(name, result, ok)
	if !ok && result != zero {
		r.t.Errorf("%s failed, and returned %s", name, result)
	}
}

func (r *letterResults) string(name, s string, ok bool) {
	r.t.Helper()
	r.told(name, ok, s, "")
}

func (r *letterResults) number(name string, n int64, ok bool) {
	r.t.Helper()
	r.told(name, ok, fmt.Sprint(n), "0")
}

func (r *letterResults) indices(name string, list []int64, ok bool) {
	r.t.Helper()
	r.told(name, ok, fmt.Sprint(list), "[]")
}

func (r *letterResults) names(name string, list []string, ok bool) {
	r.t.Helper()
	r.told(name, ok, fmt.Sprintf("%q", list), "[]")
}

// ofRules calls all functions with letters and rules.
func (c letterCall) ofRules(r *letterResults) {
	r.t.Helper()
	r.text += fmt.Sprintln(impl.IsVowel(c.s), impl.IsVowel(c.word), impl.ValidRule(c.r), impl.SameRules(c.rules, c.others), impl.MatchesAt(c.r, c.word, c.at), impl.PlainRules())
	n, ok := impl.SyllablesIn(c.word)
	r.number("SyllablesIn", n, ok)
	s, ok := impl.RuleText(c.r)
	r.string("RuleText", s, ok)
	rule, ok := impl.ReadRule(c.s)
	r.told("ReadRule", ok, fmt.Sprintf("%q", rule), fmt.Sprintf("%q", impl.Rule{}))
	taken, ok := impl.RulesFor(c.rules, c.word)
	r.indices("RulesFor", taken, ok)
	names, ok := impl.SoundsOf(c.rules, c.word)
	r.names("SoundsOf", names, ok)
	names, ok = impl.SpellText(c.rules, c.text)
	r.names("SpellText", names, ok)
	dead, ok := impl.DeadRules(c.rules)
	r.indices("DeadRules", dead, ok)
}

// ofFiles calls all functions with numbers and blocks.
func (c letterCall) ofFiles(r *letterResults) {
	r.t.Helper()
	r.text += fmt.Sprintln(impl.ValidBlock(c.b), impl.SameBlock(c.b, c.other))
	s, ok := impl.NumberWords(c.at)
	r.string("NumberWords", s, ok)
	n, ok := impl.ReadNumberWords(c.text)
	r.number("ReadNumberWords", n, ok)
	s, ok = impl.SpeakNumbers(c.text)
	r.string("SpeakNumbers", s, ok)
	s, ok = impl.PackValues(c.b.Values)
	r.string("PackValues", s, ok)
	values, ok := impl.UnpackValues(c.s)
	r.told("UnpackValues", ok, bitsText(values), "")
	s, ok = impl.StoreBlock(c.b)
	r.string("StoreBlock", s, ok)
	b, ok := impl.LoadBlock(c.s)
	r.told("LoadBlock", ok, blockText(b), blockText(impl.Block{}))
	s, ok = impl.StoreBlocks(c.blocks)
	r.string("StoreBlocks", s, ok)
	blocks, read, ok := impl.RecoverBlocks(c.s)
	wantBool(r.t, "RecoverBlocks", ok, true)
	r.text += fmt.Sprintln(blocksText(blocks), read)
}

func (c letterCall) all(t *testing.T) string {
	t.Helper()
	r := &letterResults{t: t}
	c.ofRules(r)
	c.ofFiles(r)
	return r.text
}

// argumentsText tells all arguments, with the unused capacity of the lists.
func (c letterCall) argumentsText() string {
	text := fmt.Sprintf("%q %q", c.rules[:cap(c.rules)], c.others[:cap(c.others)])
	for _, b := range append([]impl.Block{c.b, c.other}, c.blocks[:cap(c.blocks)]...) {
		b.Values = b.Values[:cap(b.Values)]
		text += "\n" + blockText(b)
	}
	return text
}

// elsewhere returns equal arguments in other memory, without unused capacity.
func (c letterCall) elsewhere() letterCall {
	c.s, c.word, c.text = strings.Clone(c.s), strings.Clone(c.word), strings.Clone(c.text)
	c.rules, c.others, c.blocks = slices.Concat(c.rules), slices.Concat(c.others), slices.Concat(c.blocks)
	for k, r := range c.rules {
		c.rules[k] = ruleOf(strings.Clone(r.Before), strings.Clone(r.Letters), strings.Clone(r.After), strings.Clone(r.Sounds))
	}
	for k := range c.blocks {
		c.blocks[k].Values = slices.Concat(c.blocks[k].Values)
	}
	c.b.Values, c.other.Values = slices.Concat(c.b.Values), slices.Concat(c.other.Values)
	return c
}

func (c letterCall) twice(t *testing.T) {
	t.Helper()
	before := c.argumentsText()
	one, two, three := c.all(t), c.all(t), c.elsewhere().all(t)
	if one != two || one != three {
		t.Errorf("%v: got %s, then %s, and then %s", c, one, two, three)
	}
	if after := c.argumentsText(); after != before {
		t.Errorf("%v: the arguments %s became %s", c, before, after)
	}
}

// goodLetters are arguments that most functions take, with room behind all lists.
func goodLetters() []letterCall {
	calls := []letterCall{}
	lists := [][]impl.Rule{toldRules("C[e]-= [th]=dh.a [t]=t [h]=h [e]=e [a]=a [m]=m [d]=d"), toldRules("-[th]-=x [the]=y.z [a]=a V[d]C= [m]-=m [m]=n [d]=d [e]= [th]=d"), impl.PlainRules()}
	stored := []string{storedBlocks(manyBlocks(9)), storedBlock(blockOf(5, 1, 2)), "C[e]-=", "[th]=dh.a", "a", "\x02\x01\x00"}
	texts := []string{"the made mat", "a", "in 5 days", "one hundred", "he", "1 2  3"}
	for k, b := range goodBlocks() {
		c := letterCall{s: stored[k%len(stored)], word: []string{"the", "made", "a", "beta"}[k%4], text: texts[k%len(texts)], at: int64(k % 5)}
		c.rules = withRoom(lists[k%3], ruleOf("V", "q", "C", "q"))
		c.others, c.r = withRoom(c.rules, ruleOf("V", "q", "C", "q")), c.rules[k%8]
		c.b, c.other = blockOf(b.Time, roomy(b.Values...)...), blockOf(b.Time+1, roomy(b.Values...)...)
		c.blocks = withRoom([]impl.Block{c.b, blockOf(7, roomy(1, 2, 3)...)}, blockOf(9, roomy(7)...))
		calls = append(calls, c)
	}
	return calls
}

func TestLettersAreNotModifiedAndToldTwiceTheSame(t *testing.T) {
	for _, c := range goodLetters() {
		c.twice(t)
	}
}

func TestLettersOfAnyArgumentsReturn(t *testing.T) {
	numbers := []int64{0, 1, -1, 2, 3, 9, 10, 19, 20, 23, 24, 25, 99, 100, 1000, 999999, 1000000, math.MaxInt64, math.MinInt64, 1 << 32, 1<<32 + 3, -1 << 32}
	rules := append(goodRules(), badRules()...)
	lists := append(badRuleLists(), nil, []impl.Rule{}, impl.PlainRules(), goodRules()[:48], goodRules()[:49], toldRules("[a]= [b]=b a-[a]=c"))
	words := append(goodWords(), badWords()...)
	texts := append(append(goodWords(), badWords()...), "a b", "a  b", " ", "one two", "1 2 3", textOf(256), textOf(257), strings.Repeat("1 ", 128), strings.Repeat("1 ", 129), strings.Repeat("\xff", 256), strings.Repeat("hundred ", 100))
	bytes := append(append(badPacked(), foreignBytes()...), "", "C[e]-=", "VOX1", storedBlocks(manyBlocks(9)), storedBlock(blockOf(5, 1))+"x", strings.Repeat("[]=", 1000), strings.Repeat("\xff", 3000), strings.Repeat("\x00", 3000), "VOX1\xff\xff\xff\xff\xff\xff\x00\x00")
	blocks := append(goodBlocks(), badBlocks()...)
	for k := range 3000 {
		c := letterCall{s: bytes[k%len(bytes)], word: words[k%len(words)], text: texts[k%len(texts)], r: rules[k%len(rules)], rules: lists[k%len(lists)], others: lists[(k/3)%len(lists)], at: numbers[k%len(numbers)]}
		c.b, c.other = blocks[k%len(blocks)], blocks[(k/2)%len(blocks)]
		c.blocks = []impl.Block{c.b, c.other, c.b}[:k%4]
		c.twice(t)
	}
}

func TestLettersThatAreReturnedAreNew(t *testing.T) {
	plain := impl.PlainRules()
	for k := range plain[:cap(plain)] {
		plain[:cap(plain)][k] = ruleOf("V", "q", "V", "q")
	}
	wantText(t, "PlainRules after others have been changed", impl.PlainRules()[0].Letters, true, "a")
	for _, c := range goodLetters() {
		before := c.argumentsText()
		results := c.all(t)
		for range 2 {
			taken, _ := impl.RulesFor(c.rules, c.word)
			dead, _ := impl.DeadRules(c.rules)
			for _, list := range [][]int64{taken, dead} {
				for k := range list[:cap(list)] {
					list[:cap(list)][k] = 77
				}
			}
			names, _ := impl.SoundsOf(c.rules, c.word)
			more, _ := impl.SpellText(c.rules, c.text)
			for _, list := range [][]string{names, more} {
				for k := range list[:cap(list)] {
					list[:cap(list)][k] = "spoilt"
				}
			}
			values, _ := impl.UnpackValues(c.s)
			b, _ := impl.LoadBlock(c.s)
			spoil(values, b.Values)
			blocks, _, _ := impl.RecoverBlocks(c.s)
			// What is written into one block is not seen in the others.
			for k, b := range blocks {
				text := blocksText(blocks[k+1:])
				spoil(b.Values)
				wantText(t, "RecoverBlocks", blocksText(blocks[k+1:]), true, text)
			}
			for k := range blocks[:cap(blocks)] {
				blocks[:cap(blocks)][k] = impl.Block{}
			}
		}
		if after := c.argumentsText(); after != before {
			t.Errorf("with other results, the arguments %s became %s", before, after)
		}
		wantText(t, "results after others have been changed", c.all(t), true, results)
	}
}

// Words of numbers, readers that stop, and rules are told at the same time by many.
func TestLettersAtTheSameTime(t *testing.T) {
	calls := goodLetters()
	want := []string{}
	for _, c := range calls {
		want = append(want, c.all(t))
	}
	var group sync.WaitGroup
	for n := range 8 {
		group.Go(func() {
			for k := range calls {
				k = (k + n) % len(calls)
				if got := calls[k].all(t); got != want[k] {
					t.Errorf("%v at the same time: got %s, want %s", calls[k], got, want[k])
				}
			}
		})
	}
	group.Wait()
}
