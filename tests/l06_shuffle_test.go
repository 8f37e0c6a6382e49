package tests

import (
	"math"
	"slices"
	"testing"

	"loop.example/g03010/impl"
)

func TestFullDeck(t *testing.T) {
	deck := impl.FullDeck()
	if !slices.Equal(deck, wholeDeck()) {
		t.Errorf("the deck is %v", deck)
	}
	scribble(deck, -1)
	if !slices.Equal(impl.FullDeck(), wholeDeck()) {
		t.Errorf("the deck became %v", impl.FullDeck())
	}
}

// slowShuffled is Shuffled, with a hash of its own.
func slowShuffled(l []int, seed int) []int {
	mixed := slices.Clone(l)
	for i := len(l) - 1; i > 0; i-- {
		j := slowHash([]int{seed, i}) % (i + 1)
		c := mixed[i]
		mixed[i] = mixed[j]
		mixed[j] = c
	}
	return mixed
}

var shuffleSeeds = []int{0, 1, 2, 7, 100, 1000000, -1, -7, cryptoModulus, math.MaxInt, math.MinInt}

func TestShuffled(t *testing.T) {
	for _, seed := range shuffleSeeds {
		for _, l := range [][]int{nil, {}, {5}, {9, 3}, {9, 9, 3}, {99, -1, 5, 5}, hand("AsKd2c7h"), wholeDeck()[:51], wholeDeck()} {
			if got, want := impl.Shuffled(l, seed), slowShuffled(l, seed); !slices.Equal(got, want) {
				t.Errorf("Shuffled(%v, %d) is %v, not %v", l, seed, got, want)
			}
		}
	}
}

// A deck of one card has no places to change, and one of no cards neither.
func TestShuffledSmallDecks(t *testing.T) {
	for _, seed := range shuffleSeeds {
		if got := impl.Shuffled([]int{51}, seed); !slices.Equal(got, []int{51}) {
			t.Errorf("one card became %v", got)
		}
		if got := impl.Shuffled(nil, seed); len(got) != 0 {
			t.Errorf("no card became %v", got)
		}
	}
	orders := map[int]bool{}
	for seed := range 40 {
		orders[impl.Shuffled([]int{8, 9}, seed)[0]] = true
	}
	if !orders[8] || !orders[9] {
		t.Errorf("of two cards only %v come first", orders)
	}
}

// Promise 6: shuffling, cutting and riffling lose no card, and have none twice.
func TestShufflingLosesNoCard(t *testing.T) {
	random := numbers{13}
	for size := range 53 {
		l := random.someHand(size)
		for _, seed := range shuffleSeeds {
			if got := impl.Shuffled(l, seed); len(got) != size || !impl.SameCards(got, l) {
				t.Errorf("Shuffled(%v, %d) is %v", l, seed, got)
			}
		}
		for at := -2; at <= size+2; at++ {
			if got := impl.Cut(l, at); len(got) != size || !impl.SameCards(got, l) {
				t.Errorf("Cut(%v, %d) is %v", l, at, got)
			}
		}
		for at := range size + 1 {
			if got := impl.Riffle(l[:at], l[at:]); len(got) != size || !impl.SameCards(got, l) {
				t.Errorf("Riffle(%v, %v) is %v", l[:at], l[at:], got)
			}
		}
	}
}

func TestCut(t *testing.T) {
	for _, c := range []struct {
		l    []int
		at   int
		want []int
	}{
		{[]int{4, 5, 6}, 0, []int{4, 5, 6}},
		{[]int{4, 5, 6}, 1, []int{5, 6, 4}},
		{[]int{4, 5, 6}, 2, []int{6, 4, 5}},
		{[]int{4, 5, 6}, 3, []int{4, 5, 6}},
		{[]int{4, 5, 6}, 4, []int{4, 5, 6}},
		{[]int{4, 5, 6}, -1, []int{4, 5, 6}},
		{[]int{4, 5, 6}, math.MaxInt, []int{4, 5, 6}},
		{[]int{4, 5, 6}, math.MinInt, []int{4, 5, 6}},
		{[]int{4, 4, 99}, 2, []int{99, 4, 4}},
		{[]int{4}, 0, []int{4}},
		{[]int{4}, 1, []int{4}},
		{[]int{4}, 2, []int{4}},
		{nil, 0, nil},
		{nil, 1, nil},
		{[]int{}, -1, nil},
	} {
		if got := impl.Cut(c.l, c.at); !slices.Equal(got, c.want) {
			t.Errorf("Cut(%v, %d) is %v", c.l, c.at, got)
		}
	}
}

func TestRiffle(t *testing.T) {
	for _, c := range []struct{ a, b, want []int }{
		{nil, nil, nil},
		{[]int{}, nil, nil},
		{[]int{1}, nil, []int{1}},
		{nil, []int{1}, []int{1}},
		{[]int{1, 2, 3}, nil, []int{1, 2, 3}},
		{nil, []int{1, 2, 3}, []int{1, 2, 3}},
		{[]int{1}, []int{2}, []int{1, 2}},
		{[]int{1, 2}, []int{3, 4}, []int{1, 3, 2, 4}},
		{[]int{1, 2, 3, 4}, []int{5}, []int{1, 5, 2, 3, 4}},
		{[]int{5}, []int{1, 2, 3, 4}, []int{5, 1, 2, 3, 4}},
		{[]int{1, 2, 3}, []int{4, 5}, []int{1, 4, 2, 5, 3}},
		{[]int{7, 7}, []int{7, 99, -1}, []int{7, 7, 7, 99, -1}},
	} {
		if got := impl.Riffle(c.a, c.b); !slices.Equal(got, c.want) {
			t.Errorf("Riffle(%v, %v) is %v", c.a, c.b, got)
		}
	}
}

func TestPlaceOf(t *testing.T) {
	l := []int{9, 3, 9, 51, 0}
	for c, want := range map[int]int{9: 0, 3: 1, 51: 3, 0: 4, 1: -1, 52: -1, -1: -1, math.MaxInt: -1, math.MinInt: -1} {
		if got := impl.PlaceOf(l, c); got != want {
			t.Errorf("PlaceOf(%v, %d) is %d", l, c, got)
		}
		if impl.PlaceOf(nil, c) != -1 || impl.PlaceOf([]int{}, c) != -1 {
			t.Errorf("no cards have %d", c)
		}
	}
	for i, c := range impl.Shuffled(wholeDeck(), 5) {
		if got := impl.PlaceOf(impl.Shuffled(wholeDeck(), 5), c); got != i {
			t.Errorf("the card %d is at %d, not %d", c, got, i)
		}
	}
}

func TestShufflesKeepArguments(t *testing.T) {
	for _, l := range [][]int{{}, {5}, {9, 3, 9, 7}, wholeDeck()} {
		keepsInts(t, "Shuffled", l, func(l []int) []int { return impl.Shuffled(l, 7) })
		for _, at := range []int{0, 1, 2, len(l), len(l) + 1, -1} {
			keepsInts(t, "Cut", l, func(l []int) []int { return impl.Cut(l, at) })
		}
		for _, other := range [][]int{nil, {4}, {4, 5, 6, 7, 8}} {
			keepsInts(t, "Riffle", l, func(l []int) []int { return impl.Riffle(l, other) })
			keepsInts(t, "Riffle", l, func(l []int) []int { return impl.Riffle(other, l) })
		}
		keepsInts(t, "PlaceOf", l, func(l []int) []int { impl.PlaceOf(l, 9); return nil })
	}
}
