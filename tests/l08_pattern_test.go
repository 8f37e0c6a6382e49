package tests

import (
	"math"
	"slices"
	"testing"

	"loop.example/g03010/impl"
)

// The signs, written out.
const (
	not  = -1
	and  = -2
	or   = -3
	suit = 100
	rank = 200
	from = 300
	red  = 400
)

// everySign has all signs of patterns.
var everySign = slices.Concat(countUp(-3, 0), countUp(100, 104), countUp(200, 213), countUp(300, 313), []int{400})

// slowMatches works a pattern off for one card; the second result is whether it is one.
func slowMatches(p []int, c int) (bool, bool) {
	if len(p) < 1 || len(p) > 20 {
		return false, false
	}
	pile := []bool{}
	for _, sign := range p {
		size := len(pile)
		switch {
		case sign == not && size >= 1:
			pile[size-1] = !pile[size-1]
		case sign == and && size >= 2:
			pile = append(slices.Clone(pile[:size-2]), pile[size-2] && pile[size-1])
		case sign == or && size >= 2:
			pile = append(slices.Clone(pile[:size-2]), pile[size-2] || pile[size-1])
		case sign >= suit && sign < suit+4:
			pile = append(pile, c/13 == sign-suit)
		case sign >= rank && sign < rank+13:
			pile = append(pile, c%13 == sign-rank)
		case sign >= from && sign < from+13:
			pile = append(pile, c%13 >= sign-from)
		case sign == red:
			pile = append(pile, c/13 == 1 || c/13 == 2)
		default:
			return false, false
		}
	}
	return len(pile) == 1 && pile[0], len(pile) == 1
}

func slowMatchSet(p []int) []int {
	l := []int{}
	for c := range 52 {
		if matches, ok := slowMatches(p, c); ok && matches {
			l = append(l, c)
		}
	}
	return l
}

// somePattern returns a pattern of at most size signs that is new each time.
func (n *numbers) somePattern(size int) []int {
	if size >= 3 && n.below(3) > 0 {
		left := n.somePattern(1 + n.below(size-2))
		right := n.somePattern(size - 1 - len(left))
		return append(slices.Concat(left, right), and-n.below(2))
	}
	if size >= 2 && n.below(2) > 0 {
		return append(n.somePattern(size-1), not)
	}
	return []int{everySign[3+n.below(len(everySign)-3)]}
}

var badPatterns = [][]int{
	nil, {},
	{not}, {and}, {or}, {not, red}, {and, red, red}, {or, red, red},
	{red, red}, {red, red, red}, {red, red, not},
	{red, and}, {red, or}, {red, not, and}, {red, red, and, or}, {red, and, red}, {red, red, red, and},
	{-4}, {0}, {1}, {99}, {104}, {199}, {213}, {299}, {313}, {399}, {401}, {500}, {math.MinInt}, {math.MaxInt},
	{red, 104, and}, {red, red, 0}, {99, red, or}, {red, -4}, {red, 401, or}, {red, red, and, 52},
	make([]int, 20), make([]int, 21),
}

// chain returns a pattern of so many signs.
func chain(size int) []int {
	p := []int{red}
	for len(p) < size {
		p = append(p, not)
	}
	return p
}

func TestPatternSigns(t *testing.T) {
	if !slices.Equal([]int{impl.PtNot, impl.PtAnd, impl.PtOr, impl.PtSuit, impl.PtRank, impl.PtFrom, impl.PtRed, impl.MaxSigns}, []int{-1, -2, -3, 100, 200, 300, 400, 20}) {
		t.Errorf("other signs")
	}
}

func TestIsPattern(t *testing.T) {
	for _, p := range [][]int{
		{red}, {suit}, {suit + 3}, {rank}, {rank + 12}, {from}, {from + 12},
		{red, not}, {red, red, and}, {red, suit, or}, {red, not, not}, {red, suit, rank, and, or}, {red, suit, and, rank, or, not},
		chain(19), chain(20),
	} {
		if !impl.IsPattern(p) {
			t.Errorf("%v is no pattern", p)
		}
	}
	for _, p := range append(badPatterns, chain(21), chain(22), chain(1000)) {
		if impl.IsPattern(p) {
			t.Errorf("%v is a pattern", p)
		}
	}
	for n := -500; n <= 500; n++ {
		if got, want := impl.IsPattern([]int{n}), n > 0 && slices.Contains(everySign, n); got != want {
			t.Errorf("the sign %d alone is a pattern: %t", n, got)
		}
		if got, want := impl.IsPattern([]int{red, red, n}), n == and || n == or; got != want {
			t.Errorf("two values and the sign %d are a pattern: %t", n, got)
		}
	}
}

func checkPattern(t *testing.T, p []int) {
	t.Helper()
	want := slowMatchSet(p)
	if got := impl.MatchSet(p); !slices.Equal(got, want) {
		t.Errorf("MatchSet(%v) is %v, not %v", p, got, want)
	}
	for c := range 52 {
		if impl.Matches(p, c) != slices.Contains(want, c) {
			t.Errorf("Matches(%v, %d) is %t", p, c, impl.Matches(p, c))
		}
	}
	for _, c := range noCards {
		if impl.Matches(p, c) {
			t.Errorf("%v matches %d", p, c)
		}
	}
	if got := impl.CountMatches(p, wholeDeck()); got != len(want) {
		t.Errorf("%v matches %d cards", p, got)
	}
}

func TestMatches(t *testing.T) {
	for _, sign := range everySign[3:] {
		checkPattern(t, []int{sign})
		checkPattern(t, []int{sign, not})
		for _, other := range everySign[3:] {
			checkPattern(t, []int{sign, other, and})
			checkPattern(t, []int{sign, other, not, or})
		}
	}
	random := numbers{23}
	for range 400 {
		p := random.somePattern(20)
		if !impl.IsPattern(p) {
			t.Fatalf("%v is no pattern", p)
		}
		checkPattern(t, p)
	}
	for _, p := range badPatterns {
		checkPattern(t, p)
	}
}

// Lists of signs of all kinds are patterns just if they can be worked off.
func TestPatternsOfAnySigns(t *testing.T) {
	signs := []int{not, and, or, red, suit + 1, 104, 0}
	lists := [][]int{{}}
	for range 6 {
		var longer [][]int
		for _, p := range lists {
			_, want := slowMatches(p, 20)
			if impl.IsPattern(p) != want {
				t.Fatalf("%v is a pattern: %t", p, !want)
			}
			for _, sign := range signs {
				longer = append(longer, append(slices.Clone(p), sign))
			}
		}
		lists = longer
	}
}

func TestCountMatches(t *testing.T) {
	for _, c := range []struct {
		p, l []int
		want int
	}{
		{[]int{red}, nil, 0},
		{[]int{red}, []int{}, 0},
		{[]int{red}, []int{13, 13, 13}, 3},
		{[]int{red}, []int{0, 13, 52, -1, 99, 26, 39}, 2},
		{[]int{from}, []int{52, -1, math.MinInt, math.MaxInt}, 0},
		{[]int{red, not}, []int{52, -1, 0}, 1},
		{[]int{rank, rank + 1, and}, wholeDeck(), 0},
		{[]int{red, red}, wholeDeck(), 0},
		{nil, wholeDeck(), 0},
	} {
		if got := impl.CountMatches(c.p, c.l); got != c.want {
			t.Errorf("CountMatches(%v, %v) is %d", c.p, c.l, got)
		}
	}
}

// Patterns that match no card, and those that match all.
func TestPatternsThatMatchNoCard(t *testing.T) {
	for _, p := range [][]int{
		{red, red, not, and}, {suit, suit + 1, and}, {rank, rank + 1, and}, {from, not}, {from + 12, rank + 11, and}, {suit, red, and},
	} {
		if !impl.IsPattern(p) || len(impl.MatchSet(p)) != 0 || impl.CountMatches(p, wholeDeck()) != 0 {
			t.Errorf("%v matches %v", p, impl.MatchSet(p))
		}
		if !impl.AlikePatterns(p, []int{from, not}) || impl.AlikePatterns(p, []int{from}) {
			t.Errorf("%v is not like the pattern of no card", p)
		}
		if got := impl.MatchSet(impl.NotPattern(p)); !slices.Equal(got, wholeDeck()) {
			t.Errorf("the opposite of %v matches %v", p, got)
		}
	}
}

func TestAlikePatterns(t *testing.T) {
	for _, c := range []struct {
		a, b []int
		want bool
	}{
		{[]int{red}, []int{red}, true},
		{[]int{red}, []int{suit + 1, suit + 2, or}, true},
		{[]int{suit, suit + 3, or}, []int{red, not}, true},
		{[]int{from + 12}, []int{rank + 12}, true},
		{[]int{from}, []int{red, red, not, or}, true},
		{[]int{red}, []int{red, not}, false},
		{[]int{red}, []int{suit + 1}, false},
		{[]int{rank}, []int{from}, false},
		{[]int{rank, not}, []int{from + 1}, true},
	} {
		if impl.AlikePatterns(c.a, c.b) != c.want || impl.AlikePatterns(c.b, c.a) != c.want {
			t.Errorf("AlikePatterns(%v, %v) is not %t", c.a, c.b, c.want)
		}
	}
	for _, p := range badPatterns {
		for _, other := range [][]int{p, nil, {red}, {from, not}} {
			if impl.AlikePatterns(p, other) || impl.AlikePatterns(other, p) {
				t.Errorf("%v and %v are alike", p, other)
			}
		}
	}
}

func TestNotPattern(t *testing.T) {
	for _, p := range [][]int{{red}, {red, not}, {suit, rank, or}, chain(18), chain(19)} {
		if got := impl.NotPattern(p); !slices.Equal(got, append(slices.Clone(p), not)) {
			t.Errorf("NotPattern(%v) is %v", p, got)
		}
	}
	for _, p := range append(badPatterns, chain(20), chain(21), chain(500)) {
		if got := impl.NotPattern(p); len(got) != 0 {
			t.Errorf("NotPattern(%v) is %v", p, got)
		}
	}
}

// Promise 8: each card matches a pattern or its opposite, and not both.
func TestPatternAndItsOppositeHaveAllCards(t *testing.T) {
	random := numbers{29}
	for range 300 {
		p := random.somePattern(19)
		opposite := impl.NotPattern(p)
		both := slices.Concat(impl.MatchSet(p), impl.MatchSet(opposite))
		if !impl.IsPattern(opposite) || len(both) != 52 || !impl.SameCards(both, wholeDeck()) {
			t.Errorf("%v and its opposite match %v", p, both)
		}
		if impl.AlikePatterns(p, opposite) {
			t.Errorf("%v is like its opposite", p)
		}
		if len(p) <= 18 && !impl.AlikePatterns(p, impl.NotPattern(opposite)) {
			t.Errorf("%v is not like the opposite of its opposite", p)
		}
	}
}

func TestPatternsKeepArguments(t *testing.T) {
	for _, p := range [][]int{{}, {red}, {red, suit, or}, {red, red}, chain(19), chain(20)} {
		keepsInts(t, "NotPattern", p, impl.NotPattern)
		keepsInts(t, "MatchSet", p, impl.MatchSet)
		keepsInts(t, "IsPattern and others", p, func(p []int) []int {
			impl.IsPattern(p)
			impl.Matches(p, 20)
			impl.AlikePatterns(p, p)
			impl.CountMatches(p, wholeDeck())
			return nil
		})
		keepsInts(t, "CountMatches", []int{3, 20, 20, 99}, func(l []int) []int { return []int{impl.CountMatches(p, l)} })
	}
}
