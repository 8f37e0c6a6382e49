package tests

import (
	"math"
	"slices"
	"strings"
	"testing"

	"loop.example/g03010/impl"
)

var patternTexts = []struct {
	p []int
	s string
}{
	{[]int{suit}, "c"},
	{[]int{suit + 1}, "d"},
	{[]int{suit + 2}, "h"},
	{[]int{suit + 3}, "s"},
	{[]int{red}, "r"},
	{[]int{rank}, "2"},
	{[]int{rank + 7}, "9"},
	{[]int{rank + 8}, "T"},
	{[]int{rank + 12}, "A"},
	{[]int{from}, "2+"},
	{[]int{from + 8}, "T+"},
	{[]int{from + 12}, "A+"},
	{[]int{red, not}, "!r"},
	{[]int{red, not, not}, "!!r"},
	{[]int{from + 3, not}, "!5+"},
	{[]int{red, suit, and}, "(r&c)"},
	{[]int{suit, red, and}, "(c&r)"},
	{[]int{red, suit, or}, "(r|c)"},
	{[]int{red, suit, or, not}, "!(r|c)"},
	{[]int{red, suit, not, or}, "(r|!c)"},
	{[]int{red, not, suit, or}, "(!r|c)"},
	{[]int{red, from + 9, and, rank, not, or}, "((r&J+)|!2)"},
	{[]int{suit, suit + 1, rank + 12, or, and}, "(c&(d|A))"},
	{[]int{suit, suit + 1, rank + 12, and, or}, "(c|(d&A))"},
	{[]int{suit, suit + 1, and, rank + 12, or}, "((c&d)|A)"},
	{[]int{suit, suit + 1, or, suit + 2, suit + 3, or, and}, "((c|d)&(h|s))"},
	{[]int{from + 4, from + 7, not, and}, "(6+&!9+)"},
}

func TestPatternText(t *testing.T) {
	for _, c := range patternTexts {
		if got := impl.PatternText(c.p); got != c.s {
			t.Errorf("PatternText(%v) is %q, not %q", c.p, got, c.s)
		}
	}
	letters := "23456789TJQKA"
	for r := range 13 {
		if got := impl.PatternText([]int{rank + r, from + r, and}); got != "("+letters[r:r+1]+"&"+letters[r:r+1]+"+)" {
			t.Errorf("the rank %d is %q", r, got)
		}
	}
	for _, p := range append(badPatterns, chain(21)) {
		if got := impl.PatternText(p); got != "" {
			t.Errorf("PatternText(%v) is %q", p, got)
		}
	}
	if got := impl.PatternText(chain(20)); got != strings.Repeat("!", 19)+"r" {
		t.Errorf("twenty signs are %q", got)
	}
}

func checkNoPattern(t *testing.T, s string) {
	t.Helper()
	if p, ok := impl.ParsePattern(s); ok || len(p) != 0 {
		t.Errorf("ParsePattern(%.60q) is %v, %t", s, p, ok)
	}
}

func TestParsePattern(t *testing.T) {
	for _, c := range patternTexts {
		if p, ok := impl.ParsePattern(c.s); !ok || !slices.Equal(p, c.p) {
			t.Errorf("ParsePattern(%q) is %v, %t", c.s, p, ok)
		}
		for _, s := range []string{" " + c.s, c.s + " ", c.s + ")", "(" + c.s, "(" + c.s + ")", c.s + c.s, c.s + "!", c.s + "&", c.s + "&" + c.s, "+" + c.s, c.s + "++"} {
			checkNoPattern(t, s)
		}
	}
}

// Patterns in needless brackets are not as they are written.
func TestParsePatternNeedlessBrackets(t *testing.T) {
	for _, s := range []string{
		"(c)", "((c))", "(r)", "(2+)", "(!r)", "!(r)", "((r&c))", "((r)&c)", "(r&(c))", "(r&c&d)", "((r&c)&d|s)", "()", "(())", "!()", "(r&c)()", "()r",
	} {
		checkNoPattern(t, s)
	}
}

func TestParsePatternInvalid(t *testing.T) {
	for _, s := range []string{
		"", " ", "x", "1", "0", "10", "t", "a", "k", "R", "C", "D", "H", "S", "+", "-", "?", "!", "!!", "&", "|", "(", ")", "r+", "c+", "T++", "+T", "!+", "(+|c)",
		"cd", "c d", "c&d", "c|d", "(c&d", "c&d)", "(c&d))", "((c&d)", "(c+d)", "(c&)", "(&c)", "(&)", "(c d)", "(c & d)", "(c,d)", "(cd)", "(c&&d)", "(c||d)", "(c!d)", "c!", "(c&d)!", "(c&d!)", "!(c&d",
		"r\x00", "\x00", "\xff", "\u00e9", "2\uff0b", "Qh", "PtRed",
	} {
		checkNoPattern(t, s)
	}
	for b := range 256 {
		s := string([]byte{byte(b)})
		if _, ok := impl.ParsePattern(s); ok != strings.Contains("cdhsr23456789TJQKA", s) {
			t.Errorf("ParsePattern(%q) is %t", s, ok)
		}
		if _, ok := impl.ParsePattern("7" + s); ok != (s == "+") {
			t.Errorf("ParsePattern(%q) is %t", "7"+s, ok)
		}
		if _, ok := impl.ParsePattern("(7" + s + "c)"); ok != (s == "&" || s == "|") {
			t.Errorf("ParsePattern(%q) is %t", "(7"+s+"c)", ok)
		}
	}
}

func TestParsePatternLimit(t *testing.T) {
	for size := 1; size <= 30; size++ {
		s := strings.Repeat("!", size-1) + "r"
		if p, ok := impl.ParsePattern(s); ok != (size <= 20) || ok && !slices.Equal(p, chain(size)) {
			t.Errorf("ParsePattern(%q) is %v, %t", s, p, ok)
		}
	}
	for size := range 60 {
		checkNoPattern(t, strings.Repeat("!", size))
		checkNoPattern(t, strings.Repeat("!", size)+"(r&)")
		checkNoPattern(t, strings.Repeat("!", size)+"(|r)")
	}
	nested := "r"
	for values := 2; values <= 20; values++ {
		nested = "(" + nested + "&c)"
		if p, ok := impl.ParsePattern(nested); ok != (values <= 10) || len(p) != 0 && len(p) != 2*values-1 {
			t.Errorf("ParsePattern(%q) is %v, %t", nested, p, ok)
		}
		signs := 2*values - 1
		if _, ok := impl.ParsePattern("!" + nested); ok != (signs+1 <= 20) {
			t.Errorf("the opposite of %q is read: %t", nested, ok)
		}
		if _, ok := impl.ParsePattern("!!" + nested); ok != (signs+2 <= 20) {
			t.Errorf("the opposite of the opposite of %q is read: %t", nested, ok)
		}
	}
	for _, part := range []string{"!", "(", "(r&", ")", "r", "!(", "(!"} {
		checkNoPattern(t, strings.Repeat(part, 3000000))
		checkNoPattern(t, strings.Repeat(part, 100)+"r"+strings.Repeat(")", 100))
	}
}

// Promise 9: every pattern is read from its text, and what is read has this text.
func TestPatternsAreReadFromTheirText(t *testing.T) {
	random := numbers{31}
	for range 500 {
		p := random.somePattern(20)
		s := impl.PatternText(p)
		if got, ok := impl.ParsePattern(s); !ok || !slices.Equal(got, p) {
			t.Errorf("%v is %q, read again %v, %t", p, s, got, ok)
		}
	}
	letters := "cr2+!(&|)"
	texts := []string{""}
	for range 6 {
		var longer []string
		for _, s := range texts {
			p, ok := impl.ParsePattern(s)
			if ok && impl.PatternText(p) != s || !ok && len(p) != 0 {
				t.Fatalf("ParsePattern(%q) is %v, %t", s, p, ok)
			}
			for i := range letters {
				longer = append(longer, s+letters[i:i+1])
			}
		}
		texts = longer
	}
}

func TestHandText(t *testing.T) {
	for _, c := range []struct {
		l []int
		s string
	}{
		{nil, "-"},
		{[]int{}, "-"},
		{[]int{0}, "2c"},
		{[]int{51, 21, 0}, "AsTd2c"},
		{[]int{0, 52}, "2c?"},
		{[]int{52}, "?"},
		{[]int{-1, 0, 99, math.MinInt, math.MaxInt}, "?2c???"},
		{[]int{5, 5}, "7c7c"},
		{wholeDeck(), strings.Join(deckTexts, "")},
	} {
		if got := impl.HandText(c.l); got != c.s {
			t.Errorf("HandText(%v) is %q, not %q", c.l, got, c.s)
		}
	}
}

func TestParseHand(t *testing.T) {
	random := numbers{37}
	for size := range 53 {
		l := random.someHand(size)
		s := impl.HandText(l)
		if got, ok := impl.ParseHand(s); !ok || !slices.Equal(got, l) {
			t.Errorf("%v is %q, read again %v, %t", l, s, got, ok)
		}
	}
	if got, ok := impl.ParseHand("-"); !ok || len(got) != 0 {
		t.Errorf("no cards are %v, %t", got, ok)
	}
	if got, ok := impl.ParseHand("AsTd2c"); !ok || !slices.Equal(got, []int{51, 21, 0}) {
		t.Errorf("three cards are %v, %t", got, ok)
	}
}

func TestParseHandInvalid(t *testing.T) {
	whole := strings.Join(deckTexts, "")
	for _, s := range []string{
		"", " ", "A", "s", "?", "??", "2c?", "?2c", "--", "-2c", "2c-", "- ", " -", "AsAs", "2c3c2c", "AsT", "AsTdx", "As Td", " As", "As ", "as", "AS", "sA", "1c", "10c", "AsTd2", "As,Td", "As-", "\u2660A", "As\x00\x00",
		whole + "2c", whole + "As", whole + "A", strings.Repeat("As", 100000), strings.Repeat("?", 52),
	} {
		if got, ok := impl.ParseHand(s); ok || len(got) != 0 {
			t.Errorf("ParseHand(%.60q) is %v, %t", s, got, ok)
		}
	}
}

func TestSuitsText(t *testing.T) {
	for _, c := range []struct {
		l []int
		s string
	}{
		{nil, "s: h: d: c:"},
		{[]int{}, "s: h: d: c:"},
		{hand("AsTd2cKsAd"), "s:AK h: d:AT c:2"},
		{hand("2s3h4d5c"), "s:2 h:3 d:4 c:5"},
		{hand("9hThJhQh2h"), "s: h:QJT92 d: c:"},
		{wholeDeck(), "s:AKQJT98765432 h:AKQJT98765432 d:AKQJT98765432 c:AKQJT98765432"},
	} {
		if got := impl.SuitsText(c.l); got != c.s {
			t.Errorf("SuitsText(%v) is %q, not %q", c.l, got, c.s)
		}
	}
	for _, l := range oddLists {
		if got := impl.SuitsText(l); got != "" {
			t.Errorf("SuitsText(%v) is %q", l, got)
		}
	}
}

func TestNotationsKeepArguments(t *testing.T) {
	for _, l := range [][]int{{}, {red}, {red, suit, or, not}, {51, 21, 0}, {51, 51}, {52, 0}} {
		keepsInts(t, "PatternText and others", l, func(l []int) []int {
			impl.PatternText(l)
			impl.HandText(l)
			impl.SuitsText(l)
			return nil
		})
	}
	first, _ := impl.ParsePattern("(r&c)")
	second, _ := impl.ParsePattern("(r&c)")
	scribble(first, -9)
	if !slices.Equal(second, []int{red, suit, and}) {
		t.Errorf("the pattern became %v", second)
	}
	cards, _ := impl.ParseHand("AsTd")
	again, _ := impl.ParseHand("AsTd")
	scribble(cards, -9)
	if !slices.Equal(again, []int{51, 21}) {
		t.Errorf("the hand became %v", again)
	}
}
