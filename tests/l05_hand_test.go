package tests

import (
	"math"
	"slices"
	"testing"

	"loop.example/g03010/impl"
)

// hand reads cards from their texts, "AsKd2c"; a text that is no card's becomes -1.
func hand(s string) []int {
	l := []int{}
	for ; len(s) >= 2; s = s[2:] {
		l = append(l, slices.Index(deckTexts, s[:2]))
	}
	return l
}

func wholeDeck() []int {
	deck := []int{}
	for c := range 52 {
		deck = append(deck, c)
	}
	return deck
}

// oddLists are lists that are no hands.
var oddLists = [][]int{
	{-1}, {52}, {64}, {math.MinInt}, {math.MaxInt}, {0, 52}, {52, 0}, {51, -1, 3},
	{3, 3}, {0, 0}, {51, 51}, {3, 4, 3}, {3, 4, 5, 5}, {5, 4, 3, 4, 5}, {0, 64}, {0, 256}, {3, -61},
	{52, 52}, {-1, -1}, {1, 99, 99}, {0, 1 << 32},
}

func TestIsHand(t *testing.T) {
	for _, l := range [][]int{nil, {}, {0}, {51}, {12, 13}, {13, 12}, hand("AsKd2c7h"), wholeDeck()} {
		if !impl.IsHand(l) {
			t.Errorf("%v is no hand", l)
		}
	}
	for _, l := range oddLists {
		if impl.IsHand(l) {
			t.Errorf("%v is a hand", l)
		}
	}
	for c := range 52 {
		if impl.IsHand(append(wholeDeck(), c)) || !impl.IsHand([]int{c}) {
			t.Errorf("the card %d", c)
		}
	}
}

func TestHasCard(t *testing.T) {
	l := hand("AsKd2c7h")
	for c := range 52 {
		if impl.HasCard(l, c) != slices.Contains(l, c) {
			t.Errorf("the card %d: %t", c, impl.HasCard(l, c))
		}
		if !impl.HasCard(wholeDeck(), c) || impl.HasCard(nil, c) || !impl.HasCard([]int{c, c}, c) {
			t.Errorf("the card %d", c)
		}
	}
	for _, c := range noCards {
		if impl.HasCard(wholeDeck(), c) || impl.HasCard(nil, c) || impl.HasCard([]int{}, c) {
			t.Errorf("%d is a card of the deck", c)
		}
	}
	if !impl.HasCard([]int{99, 5}, 5) || impl.HasCard([]int{99, 5}, 6) {
		t.Errorf("a card beside a number that is none")
	}
}

func TestWithout(t *testing.T) {
	for _, c := range []struct {
		l    []int
		c    int
		want []int
	}{
		{nil, 0, nil},
		{[]int{}, 5, nil},
		{[]int{5}, 5, nil},
		{[]int{5}, 6, []int{5}},
		{[]int{5, 6, 5}, 5, []int{6}},
		{[]int{5, 5}, 5, nil},
		{[]int{5, 5, 7, 7, 5}, 7, []int{5, 5, 5}},
		{[]int{9, 3, 7}, 9, []int{3, 7}},
		{[]int{9, 3, 7}, 3, []int{9, 7}},
		{[]int{9, 3, 7}, 7, []int{9, 3}},
		{[]int{9, 3, 7}, 52, []int{9, 3, 7}},
		{[]int{9, 3, 7}, -1, []int{9, 3, 7}},
		{[]int{9, 99, 7}, 7, []int{9, 99}},
	} {
		if got := impl.Without(c.l, c.c); !slices.Equal(got, c.want) {
			t.Errorf("Without(%v, %d) is %v", c.l, c.c, got)
		}
	}
}

func TestSorted(t *testing.T) {
	for _, c := range []struct{ l, want []int }{
		{nil, nil},
		{[]int{}, nil},
		{[]int{5}, []int{5}},
		{[]int{51, 0, 25}, []int{0, 25, 51}},
		{[]int{2, 1}, []int{1, 2}},
		{[]int{5, 3, 5}, []int{3, 5, 5}},
		{[]int{3, 3, 3, 1}, []int{1, 3, 3, 3}},
		{[]int{99, -1, 5, 52, 99}, []int{-1, 5, 52, 99, 99}},
		{[]int{math.MaxInt, 0, math.MinInt}, []int{math.MinInt, 0, math.MaxInt}},
	} {
		if got := impl.Sorted(c.l); !slices.Equal(got, c.want) {
			t.Errorf("Sorted(%v) is %v", c.l, got)
		}
	}
	random := numbers{5}
	for size := range 60 {
		l := []int{}
		for range size {
			l = append(l, random.below(100)-20)
		}
		want := slices.Clone(l)
		slices.Sort(want)
		if got := impl.Sorted(l); !slices.Equal(got, want) {
			t.Errorf("Sorted(%v) is %v", l, got)
		}
	}
}

func TestSameCards(t *testing.T) {
	for _, c := range []struct {
		a, b []int
		want bool
	}{
		{nil, nil, true},
		{nil, []int{}, true},
		{[]int{5}, []int{5}, true},
		{[]int{5, 6, 7}, []int{7, 5, 6}, true},
		{[]int{5, 6, 5}, []int{5, 5, 6}, true},
		{[]int{99, 1}, []int{1, 99}, true},
		{nil, []int{5}, false},
		{[]int{5}, nil, false},
		{[]int{5}, []int{6}, false},
		{[]int{5, 6}, []int{5}, false},
		{[]int{5, 5}, []int{5}, false},
		{[]int{5, 5, 6}, []int{5, 6, 6}, false},
		{[]int{5, 99}, []int{5}, false},
		{[]int{5, 99}, []int{5, 98}, false},
		{[]int{52}, []int{-1}, false},
		{[]int{0}, []int{64}, false},
	} {
		if impl.SameCards(c.a, c.b) != c.want || impl.SameCards(c.b, c.a) != c.want {
			t.Errorf("SameCards(%v, %v) is not %t", c.a, c.b, c.want)
		}
	}
}

func TestMissing(t *testing.T) {
	for _, c := range []struct{ l, want []int }{
		{nil, wholeDeck()},
		{[]int{}, wholeDeck()},
		{wholeDeck(), nil},
		{[]int{0}, wholeDeck()[1:]},
		{[]int{51}, wholeDeck()[:51]},
		{[]int{51, 0, 51}, wholeDeck()[1:51]},
		{[]int{52, -1, 64, 256, math.MinInt, math.MaxInt}, wholeDeck()},
		{[]int{99, 0, 99, 0}, wholeDeck()[1:]},
		{wholeDeck()[:50], []int{50, 51}},
	} {
		if got := impl.Missing(c.l); !slices.Equal(got, c.want) {
			t.Errorf("Missing(%v) is %v", c.l, got)
		}
	}
}

// Promise 5: a hand and what is missing are the whole deck, each card once.
func TestMissingMakesTheDeckWhole(t *testing.T) {
	random := numbers{11}
	for size := range 53 {
		l := random.someHand(size)
		missing := impl.Missing(l)
		if !slices.IsSorted(missing) || !impl.IsHand(slices.Concat(l, missing)) || !impl.SameCards(slices.Concat(missing, l), wholeDeck()) {
			t.Errorf("without %v the deck is %v", l, missing)
		}
		if !impl.SameCards(impl.Missing(missing), l) {
			t.Errorf("without %v the deck is %v", missing, impl.Missing(missing))
		}
		if twice := slices.Concat(l, l); !slices.Equal(impl.Missing(twice), missing) {
			t.Errorf("without %v twice the deck is %v", l, impl.Missing(twice))
		}
	}
}

func TestHandsKeepArguments(t *testing.T) {
	for _, l := range [][]int{{}, {5}, {9, 3, 9, 7}, {99, -1, 4}, wholeDeck()} {
		keepsInts(t, "Without", l, func(l []int) []int { return impl.Without(l, 9) })
		keepsInts(t, "Without a card that is not there", l, func(l []int) []int { return impl.Without(l, -9) })
		keepsInts(t, "Sorted", l, impl.Sorted)
		keepsInts(t, "Missing", l, impl.Missing)
		keepsInts(t, "IsHand and others", l, func(l []int) []int {
			impl.IsHand(l)
			impl.HasCard(l, 9)
			impl.SameCards(l, l)
			return nil
		})
	}
}
