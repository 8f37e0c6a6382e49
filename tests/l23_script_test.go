package tests

import (
	"slices"
	"strconv"
	"strings"
	"testing"

	"loop.example/g03010/impl"
)

const easyText = "players=3 each=5 match=both wild=8 skip=A take=1 limit=200"

func slowRulesText(r impl.Rules) string {
	if !slowIsRules(r) {
		return ""
	}
	match := map[[2]bool]string{{true, false}: "suit", {false, true}: "rank", {true, true}: "both"}[[2]bool{r.SameSuit, r.SameRank}]
	patterns := []string{"-", "-"}
	for i, p := range [][]int{r.Wild, r.Skip} {
		if len(p) > 0 {
			patterns[i] = impl.PatternText(p)
		}
	}
	return "players=" + strconv.Itoa(r.Players) + " each=" + strconv.Itoa(r.Each) + " match=" + match + " wild=" + patterns[0] + " skip=" + patterns[1] + " take=" + strconv.Itoa(r.Take) + " limit=" + strconv.Itoa(r.Limit)
}

func checkNoRules(t *testing.T, s string) {
	t.Helper()
	if r, ok := impl.ParseRules(s); ok || !isZeroRules(r) {
		t.Errorf("ParseRules(%q) is %v, %t", s, r, ok)
	}
}

func checkRules(t *testing.T, s string, want impl.Rules) {
	t.Helper()
	if r, ok := impl.ParseRules(s); !ok || !sameRules(r, want) {
		t.Errorf("ParseRules(%q) is %v, %t, not %v", s, r, ok, want)
	}
	if got := impl.RulesText(want); got != s {
		t.Errorf("RulesText(%v) is %q, not %q", want, got, s)
	}
}

func TestRulesText(t *testing.T) {
	checkRules(t, easyText, easyRules())
	checkRules(t, "players=2 each=8 match=rank wild=- skip=(r&!2) take=4 limit=1", impl.Rules{Players: 2, Each: 8, SameRank: true, Skip: []int{red, rank, not, and}, Take: 4, Limit: 1})
	checkRules(t, "players=6 each=1 match=suit wild=- skip=- take=1 limit=400", impl.Rules{Players: 6, Each: 1, SameSuit: true, Wild: []int{}, Take: 1, Limit: 400})
	checkRules(t, "players=2 each=1 match=suit wild="+strings.Repeat("!", 19)+"r skip=K+ take=2 limit=10", impl.Rules{Players: 2, Each: 1, SameSuit: true, Wild: chain(20), Skip: []int{from + 11}, Take: 2, Limit: 10})
	for _, r := range append(changedRules(easyRules()), changedRules(impl.Rules{Players: 2, Each: 1, SameSuit: true, Take: 1, Limit: 1})...) {
		if got := impl.RulesText(r); got != "" {
			t.Errorf("RulesText(%v) is %q", r, got)
		}
	}
}

// Promise 23: rules are read from their text, and from no other one.
func TestRulesAreReadFromTheirText(t *testing.T) {
	random := numbers{199}
	for range 400 {
		r := random.someRules()
		s := impl.RulesText(r)
		if s != slowRulesText(r) {
			t.Errorf("RulesText(%v) is %q, not %q", r, s, slowRulesText(r))
		}
		checkRules(t, s, r)
	}
}

// A text with any one byte changed, left out or added is read only if it is the text of what is read.
func TestRulesTextsNearOthers(t *testing.T) {
	for _, s := range []string{easyText, "players=2 each=8 match=rank wild=- skip=(r&!2) take=4 limit=1"} {
		near := []string{}
		for i := range len(s) + 1 {
			for b := range 256 {
				near = append(near, s[:i]+string([]byte{byte(b)})+s[i:])
				if i < len(s) {
					near = append(near, s[:i]+string([]byte{byte(b)})+s[i+1:])
				}
			}
			if i < len(s) {
				near = append(near, s[:i]+s[i+1:], s[:i], s[i+1:])
			}
		}
		read := 0
		for _, text := range near {
			r, ok := impl.ParseRules(text)
			if ok && (slowRulesText(r) != text || !slowIsRules(r)) || !ok && !isZeroRules(r) {
				t.Errorf("ParseRules(%q) is %v, %t", text, r, ok)
			}
			if ok {
				read++
			}
		}
		if read < 50 {
			t.Errorf("near %q, only %d texts are read", s, read)
		}
	}
}

// orders returns all orders of the words.
func orders(words []string) [][]string {
	if len(words) == 0 {
		return [][]string{{}}
	}
	list := [][]string{}
	for i, word := range words {
		for _, others := range orders(slices.Concat(words[:i], words[i+1:])) {
			list = append(list, append([]string{word}, others...))
		}
	}
	return list
}

func TestRulesWithWordsInAnotherOrder(t *testing.T) {
	words := strings.Fields(easyText)
	for _, order := range orders(words) {
		s := strings.Join(order, " ")
		if s == easyText {
			checkRules(t, s, easyRules())
		} else {
			checkNoRules(t, s)
		}
	}
	for i, word := range words {
		checkNoRules(t, strings.Join(slices.Concat(words[:i], words[i+1:]), " "))
		checkNoRules(t, strings.Join(slices.Concat(words[:i], []string{word}, words[i:]), " "))
		checkNoRules(t, strings.Join(slices.Concat(words[:i], []string{""}, words[i:]), " "))
		checkNoRules(t, easyText+" "+word)
		checkNoRules(t, word+" "+easyText)
	}
}

func TestParseRulesOfOtherValues(t *testing.T) {
	with := func(name string, value string) string {
		words := strings.Fields(easyText)
		for i, word := range words {
			if strings.HasPrefix(word, name+"=") {
				words[i] = name + "=" + value
			}
		}
		return strings.Join(words, " ")
	}
	for name, values := range map[string][]string{
		"players": {"", "0", "1", "7", "03", "+3", "-3", "3=", "=3", "three", "1000000000001", "99999999999999999999", "3\n"},
		"each":    {"", "0", "9", "05", "-1", " 5", "5x"},
		"match":   {"", "none", "Suit", "suitrank", "both=", "Both", "suit,rank", "-", "0"},
		"wild":    {"", "x", "--", "8+8", "(8)", "8|9", "((8|9)", "88", "- ", strings.Repeat("!", 20) + "r", strings.Repeat("(", 100000)},
		"skip":    {"", "x", "A+A", "!", "a", "=A", strings.Repeat("!", 20) + "r"},
		"take":    {"", "0", "5", "01", "-1", "1.0"},
		"limit":   {"", "0", "401", "0200", "-200", "2e2", "1000000000000", "9223372036854775808"},
	} {
		for _, value := range values {
			checkNoRules(t, with(name, value))
		}
		checkNoRules(t, strings.Replace(easyText, name+"=", name, 1))
		checkNoRules(t, strings.Replace(easyText, name+"=", strings.ToUpper(name)+"=", 1))
		checkNoRules(t, strings.Replace(easyText, name+"=", name+"==", 1))
		checkNoRules(t, strings.Replace(easyText, name+"=", name+"s=", 1))
		checkNoRules(t, strings.Replace(easyText, name+"=", "=", 1))
	}
	for name, values := range map[string][]string{
		"players": {"2", "6"}, "each": {"1", "8"}, "match": {"suit", "rank"}, "wild": {"-", "(8|9)", "!!r"}, "skip": {"-", "c", "T+"}, "take": {"4"}, "limit": {"1", "400"},
	} {
		for _, value := range values {
			s := with(name, value)
			r, ok := impl.ParseRules(s)
			if !ok || !impl.IsRules(r) || impl.RulesText(r) != s {
				t.Errorf("ParseRules(%q) is %v, %t", s, r, ok)
			}
		}
	}
	for _, s := range []string{"", " ", "=", "-", "players=3", easyText + " ", " " + easyText, easyText + "\n", strings.ReplaceAll(easyText, " ", "  "), strings.ReplaceAll(easyText, " ", "\t"), strings.ReplaceAll(easyText, " ", ","), easyText + easyText, easyText + " " + easyText, strings.Repeat("players=3 ", 100000)} {
		checkNoRules(t, s)
	}
}

func slowSplit(s string, by byte) []string {
	parts := []string{""}
	for i := range len(s) {
		if s[i] == by {
			parts = append(parts, "")
		} else {
			parts[len(parts)-1] += s[i : i+1]
		}
	}
	return parts
}

func TestSplitWords(t *testing.T) {
	for _, c := range []struct {
		s    string
		by   byte
		want []string
	}{
		{"", ' ', []string{""}},
		{"", 0, []string{""}},
		{" ", ' ', []string{"", ""}},
		{"   ", ' ', []string{"", "", "", ""}},
		{"a", ' ', []string{"a"}},
		{" a,b ", ' ', []string{"", "a,b", ""}},
		{" a,b ", ',', []string{" a", "b "}},
		{"a  b", ' ', []string{"a", "", "b"}},
		{"a\x00b", 0, []string{"a", "b"}},
		{"a\xffb\xff", 0xff, []string{"a", "b", ""}},
		{"\u00ff\u00e9", 0xc3, []string{"", "\xbf", "\xa9"}},
		{"\u00ff", 0xff, []string{"\u00ff"}},
		{"\u20ac", 0x82, []string{"\xe2", "\xac"}},
		{"a\nb\n", '\n', []string{"a", "b", ""}},
	} {
		if got := impl.SplitWords(c.s, c.by); !slices.Equal(got, c.want) {
			t.Errorf("SplitWords(%q, %d) is %q", c.s, c.by, got)
		}
	}
	random := numbers{211}
	for range 500 {
		s := make([]byte, random.below(20))
		for i := range s {
			s[i] = []byte{' ', 'a', '=', 0, 0xff, 0xc3}[random.below(6)]
		}
		for by := range 256 {
			got := impl.SplitWords(string(s), byte(by))
			if !slices.Equal(got, slowSplit(string(s), byte(by))) || strings.Join(got, string([]byte{byte(by)})) != string(s) {
				t.Errorf("SplitWords(%q, %d) is %q", s, by, got)
			}
		}
	}
}

func TestValueAfter(t *testing.T) {
	for _, c := range []struct {
		word, name, want string
		ok               bool
	}{
		{"take=4", "take", "4", true},
		{"take=4=", "take", "4=", true},
		{"take==", "take", "=", true},
		{"take=", "take", "", true},
		{"take=4 x", "take", "4 x", true},
		{"=4", "", "4", true},
		{"=", "", "", true},
		{"a=b=c", "a=b", "c", true},
		{"\xff=\xfe", "\xff", "\xfe", true},
		{"takes=4", "take", "", false},
		{"take", "take", "", false},
		{"tak=4", "take", "", false},
		{" take=4", "take", "", false},
		{"xtake=4", "take", "", false},
		{"Take=4", "take", "", false},
		{"take =4", "take", "", false},
		{"", "take", "", false},
		{"", "", "", false},
		{"4", "", "", false},
		{"take=4", "", "", false},
		{"take=4", "take=", "", false},
	} {
		if got, ok := impl.ValueAfter(c.word, c.name); got != c.want || ok != c.ok {
			t.Errorf("ValueAfter(%q, %q) is %q, %t", c.word, c.name, got, ok)
		}
	}
}

func TestRulesWord(t *testing.T) {
	for _, c := range []struct {
		suit, rank bool
		want       string
	}{
		{true, false, "suit"}, {false, true, "rank"}, {true, true, "both"}, {false, false, ""},
	} {
		r := easyRules()
		r.SameSuit, r.SameRank = c.suit, c.rank
		if got := impl.RulesWord(r); got != c.want {
			t.Errorf("RulesWord(%v) is %q", r, got)
		}
		if got := impl.RulesWord(impl.Rules{SameSuit: c.suit, SameRank: c.rank, Players: -1, Wild: []int{99}}); got != c.want {
			t.Errorf("of rules that are none, RulesWord is %q", got)
		}
	}
}

func TestScriptsKeepArguments(t *testing.T) {
	for _, r := range append(changedRules(easyRules()), easyRules()) {
		keepsRows(t, "RulesText", [][]int{r.Wild, r.Skip}, func(rows [][]int) [][]int {
			q := r
			q.Wild, q.Skip = rows[0], rows[1]
			impl.RulesText(q)
			impl.RulesWord(q)
			return nil
		})
	}
	for _, s := range []string{easyText, "players=2 each=8 match=rank wild=- skip=(r&!2) take=4 limit=1", ""} {
		keepsRows(t, "ParseRules", nil, func([][]int) [][]int {
			r, _ := impl.ParseRules(s)
			return [][]int{r.Wild, r.Skip}
		})
	}
}
