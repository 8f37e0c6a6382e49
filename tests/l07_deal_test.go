package tests

import (
	"math"
	"slices"
	"testing"

	"loop.example/g03010/impl"
)

func checkDealt(t *testing.T, deck []int, players int, each int) {
	t.Helper()
	hands, rest, ok := impl.Dealt(deck, players, each)
	if !ok || len(hands) != players || !slices.Equal(rest, deck[players*each:]) {
		t.Fatalf("Dealt(%v, %d, %d) is %v, %v, %t", deck, players, each, hands, rest, ok)
	}
	for player, hand := range hands {
		want := []int{}
		for k := range each {
			want = append(want, deck[k*players+player])
		}
		if !slices.Equal(hand, want) {
			t.Errorf("Dealt(%v, %d, %d) gives %v to the player %d", deck, players, each, hand, player)
		}
	}
}

func checkNotDealt(t *testing.T, deck []int, players int, each int) {
	t.Helper()
	hands, rest, ok := impl.Dealt(deck, players, each)
	if ok || len(hands) != 0 || !slices.Equal(rest, deck) {
		t.Errorf("Dealt(%v, %d, %d) is %v, %v, %t", deck, players, each, hands, rest, ok)
	}
}

func TestDealt(t *testing.T) {
	hands, rest, ok := impl.Dealt(hand("AsKd2c7h9sTc3d"), 3, 2)
	if !ok || !equalRows(hands, [][]int{hand("As7h"), hand("Kd9s"), hand("2cTc")}) || !slices.Equal(rest, hand("3d")) {
		t.Errorf("%v, %v, %t", hands, rest, ok)
	}
	random := numbers{17}
	for players := 1; players <= 6; players++ {
		for each := 0; each <= 20; each++ {
			for _, deck := range [][]int{wholeDeck(), random.someHand(52), random.someHand(20), random.someHand(players * min(each, 8))} {
				if players*each <= len(deck) {
					checkDealt(t, deck, players, each)
				} else {
					checkNotDealt(t, deck, players, each)
				}
			}
		}
	}
	checkDealt(t, nil, 1, 0)
	checkDealt(t, []int{}, 6, 0)
	checkDealt(t, []int{5}, 1, 1)
	checkDealt(t, []int{5}, 6, 0)
}

func TestDealtInvalid(t *testing.T) {
	for _, players := range []int{0, -1, 7, 8, math.MinInt, math.MaxInt} {
		for _, each := range []int{0, 1, -1, 21, math.MaxInt} {
			checkNotDealt(t, wholeDeck(), players, each)
			checkNotDealt(t, nil, players, each)
		}
	}
	for _, each := range []int{-1, -20, 21, 22, math.MinInt, math.MaxInt, math.MaxInt/2 + 1} {
		for players := 1; players <= 6; players++ {
			checkNotDealt(t, wholeDeck(), players, each)
			checkNotDealt(t, nil, players, each)
		}
	}
	for _, deck := range oddLists {
		checkNotDealt(t, deck, 1, 0)
		checkNotDealt(t, deck, 1, 1)
		checkNotDealt(t, deck, 0, -1)
	}
	checkNotDealt(t, append(wholeDeck(), 0), 2, 2)
}

// A deck is too small if a single card is missing.
func TestDealtSmallDecks(t *testing.T) {
	checkNotDealt(t, nil, 1, 1)
	checkNotDealt(t, []int{}, 6, 1)
	for players := 1; players <= 6; players++ {
		for each := 1; players*each <= 52 && each <= 20; each++ {
			checkDealt(t, wholeDeck()[:players*each], players, each)
			checkNotDealt(t, wholeDeck()[:players*each-1], players, each)
		}
	}
}

// Promise 7: no card is dealt twice, and none is lost.
func TestDealtCardsAreApart(t *testing.T) {
	random := numbers{19}
	for players := 1; players <= 6; players++ {
		for each := 0; each <= 8; each++ {
			deck := random.someHand(players*each + random.below(5))
			hands, rest, ok := impl.Dealt(deck, players, each)
			whole := append(slices.Clone(hands), rest)
			if !ok || !impl.AllApart(whole) || impl.TotalCards(whole) != len(deck) || !impl.SameCards(slices.Concat(whole...), deck) {
				t.Errorf("Dealt(%v, %d, %d) is %v, %v", deck, players, each, hands, rest)
			}
			if got := impl.Collected(hands, rest); !slices.Equal(got, deck) {
				t.Errorf("%v, dealt to %d players and collected, is %v", deck, players, got)
			}
			for _, c := range deck {
				if who := impl.WhoHas(whole, c); who < 0 || !slices.Contains(whole[who], c) {
					t.Errorf("the player %d has the card %d", who, c)
				}
			}
		}
	}
}

func countUp(from int, to int) []int {
	l := []int{}
	for n := from; n < to; n++ {
		l = append(l, n)
	}
	return l
}

func TestCollected(t *testing.T) {
	for _, c := range []struct {
		hands      [][]int
		rest, want []int
	}{
		{nil, nil, nil},
		{nil, []int{9, 8}, []int{9, 8}},
		{[][]int{}, []int{}, nil},
		{[][]int{nil, {}}, []int{9}, []int{9}},
		{[][]int{{1, 2}, {3}}, []int{9}, []int{1, 3, 2, 9}},
		{[][]int{{1}, {2, 3}}, nil, []int{1, 2, 3}},
		{[][]int{{}, {2, 3, 4}, {5, 6}}, []int{7, 7}, []int{2, 5, 3, 6, 4, 7, 7}},
		{[][]int{{1, 1}, {1, 99}}, []int{-1, 1}, []int{1, 1, 1, 99, -1, 1}},
		{[][]int{countUp(0, 99)}, []int{7}, append(countUp(0, 99), 7)},
		{[][]int{countUp(0, 100)}, []int{7}, append(countUp(0, 100), 7)},
		{[][]int{countUp(0, 101)}, []int{7}, append(countUp(0, 100), 7)},
		{[][]int{countUp(0, 300), {5}}, countUp(0, 150), slices.Concat([]int{0, 5}, countUp(1, 100), countUp(0, 150))},
	} {
		if got := impl.Collected(c.hands, c.rest); !slices.Equal(got, c.want) {
			t.Errorf("Collected(%v, %v) is %v", c.hands, c.rest, got)
		}
	}
}

func TestAllApart(t *testing.T) {
	for _, hands := range [][][]int{
		nil, {}, {nil}, {{}, {}, nil}, {{1}}, {{1}, {2}}, {{1, 2}, {}, {4, 3}}, {wholeDeck()}, {wholeDeck()[:20], wholeDeck()[20:]},
		{{0}, {1}, {2}, {3}, {4}, {5}, {6}, {7}, {8}},
	} {
		if !impl.AllApart(hands) {
			t.Errorf("%v are not apart", hands)
		}
	}
	for _, hands := range [][][]int{
		{{1}, {1}}, {{1}, {2, 1}}, {{1, 2}, {3}, {4, 1}}, {{3}, {1, 2}, {4, 1}}, {wholeDeck(), {51}}, {{0}, {}, {0}}, {{1, 1}}, {{1}, {2, 2}}, {{52}}, {{1}, {-1}}, {{1}, {99}, {2}},
	} {
		if impl.AllApart(hands) {
			t.Errorf("%v are apart", hands)
		}
	}
	for _, l := range oddLists {
		if impl.AllApart([][]int{l}) || impl.AllApart([][]int{{}, l}) || impl.AllApart([][]int{l, {}}) {
			t.Errorf("%v is apart", l)
		}
	}
}

func TestTotalCards(t *testing.T) {
	for _, c := range []struct {
		hands [][]int
		want  int
	}{
		{nil, 0},
		{[][]int{}, 0},
		{[][]int{nil, {}}, 0},
		{[][]int{{1}}, 1},
		{[][]int{{1, 2}, {}, {3}}, 3},
		{[][]int{{1, 1}, {1, 99, -1}}, 5},
		{[][]int{wholeDeck(), wholeDeck()}, 104},
	} {
		if got := impl.TotalCards(c.hands); got != c.want {
			t.Errorf("TotalCards(%v) is %d", c.hands, got)
		}
	}
}

func TestWhoHas(t *testing.T) {
	hands := [][]int{{}, {1, 2}, {3, 1}, nil, {4, 2, 5}}
	for c, want := range map[int]int{0: -1, 1: 1, 2: 1, 3: 2, 4: 4, 5: 4, 6: -1, 52: -1, -1: -1, math.MinInt: -1, math.MaxInt: -1} {
		if got := impl.WhoHas(hands, c); got != want {
			t.Errorf("WhoHas(%v, %d) is %d", hands, c, got)
		}
		if impl.WhoHas(nil, c) != -1 || impl.WhoHas([][]int{{}}, c) != -1 {
			t.Errorf("nobody has %d", c)
		}
	}
}

func TestDealsKeepArguments(t *testing.T) {
	for _, deck := range [][]int{{}, {5}, {9, 3, 7, 8, 4}, {9, 9}, wholeDeck()} {
		for players := 0; players <= 7; players++ {
			for each := -1; each <= 3; each++ {
				keepsInts(t, "Dealt, what is left", deck, func(deck []int) []int { _, rest, _ := impl.Dealt(deck, players, each); return rest })
				keepsRows(t, "Dealt", [][]int{deck}, func(rows [][]int) [][]int {
					hands, rest, _ := impl.Dealt(rows[0], players, each)
					return append(hands, rest)
				})
			}
		}
	}
	for _, hands := range [][][]int{{}, {{}}, {{1, 2}, {3}}, {{1}, {2, 3}, {}}} {
		for _, rest := range [][]int{nil, {7, 8}} {
			keepsRows(t, "Collected", hands, func(hands [][]int) [][]int { return [][]int{impl.Collected(hands, rest)} })
			keepsInts(t, "Collected, what is left", rest, func(rest []int) []int { return impl.Collected(hands, rest) })
		}
		keepsRows(t, "AllApart and others", hands, func(hands [][]int) [][]int {
			impl.AllApart(hands)
			impl.TotalCards(hands)
			impl.WhoHas(hands, 2)
			return nil
		})
	}
}
