package tests

import (
	"math"
	"slices"
	"testing"

	"loop.example/g03010/impl"
)

func slowIsSet(l []int) bool {
	if len(l) != 3 && len(l) != 4 {
		return false
	}
	for _, c := range l {
		if c%13 != l[0]%13 {
			return false
		}
	}
	return true
}

func slowIsRun(l []int) bool {
	sorted := slices.Sorted(slices.Values(l))
	for i := 1; i < len(sorted); i++ {
		if sorted[i] != sorted[i-1]+1 || sorted[i]/13 != sorted[0]/13 {
			return false
		}
	}
	return len(l) >= 3
}

// partsOf returns all lists of some of the cards, each in ascending order.
func partsOf(l []int) [][]int {
	parts := [][]int{}
	sorted := slices.Sorted(slices.Values(l))
	for mask := range 1 << len(sorted) {
		part := []int{}
		for i, c := range sorted {
			if mask>>i&1 == 1 {
				part = append(part, c)
			}
		}
		parts = append(parts, part)
	}
	return parts
}

func slowMelds(l []int) [][]int {
	melds := [][]int{}
	for _, part := range partsOf(l) {
		if slowIsSet(part) || slowIsRun(part) {
			melds = append(melds, part)
		}
	}
	slices.SortFunc(melds, func(a, b []int) int { return slices.Compare(a, b) })
	return melds
}

// slowLeft tries all ways to take some of the melds out.
func slowLeft(l []int, melds [][]int) int {
	least := 0
	for _, c := range l {
		least += slowValue(c)
	}
	for i, meld := range melds {
		left := slices.Clone(l)
		for _, c := range meld {
			left = slices.DeleteFunc(left, func(x int) bool { return x == c })
		}
		if len(left) == len(l)-len(meld) {
			least = min(least, slowLeft(left, melds[i+1:]))
		}
	}
	return least
}

func slowValue(c int) int {
	return []int{2, 3, 4, 5, 6, 7, 8, 9, 10, 10, 10, 10, 1}[c%13]
}

// meldHand returns size cards that are near to one another, so that there are many melds.
func (n *numbers) meldHand(size int) []int {
	suits, ranks := 1+n.below(4), 3+n.below(11)
	for suits*ranks < size {
		suits, ranks = 4, ranks+1
	}
	first := n.below(14 - ranks)
	l := []int{}
	for _, i := range n.someHand(52) {
		if i/13 < suits && i%13 >= first && i%13 < first+ranks && len(l) < size {
			l = append(l, i)
		}
	}
	return l
}

func TestIsSetMeld(t *testing.T) {
	for _, s := range []string{"7c7d7h", "7h7c7d", "7s7c7h", "7c7d7h7s", "7s7h7d7c", "2c2d2h", "AcAdAs"} {
		if !impl.IsSetMeld(hand(s)) || impl.IsRunMeld(hand(s)) {
			t.Errorf("%s is no set", s)
		}
	}
	for _, s := range []string{"", "7c", "7c7d", "7c7d8h", "7c8d7h", "8c7d7h", "7c7d7h8s", "7c8c9c", "7c7d7h7s8s", "Ac2c3c", "7c7d7h8c8d8h"} {
		if impl.IsSetMeld(hand(s)) {
			t.Errorf("%s is a set", s)
		}
	}
	for _, l := range [][]int{nil, {5, 5, 5}, {5, 18, 5}, {5, 18, 31, 5}, {5, 18, 31, 44, 5}, {5, 18, 57}, {5, 18, -8}, {0, 13, 26, 52}, {52, 65, 78}, {-1, -14, -27}, wholeDeck()} {
		if impl.IsSetMeld(l) {
			t.Errorf("%v is a set", l)
		}
	}
}

func TestIsRunMeld(t *testing.T) {
	for _, s := range []string{"2d3d4d", "4d2d3d", "4d3d2d", "QcKcAc", "AsQsKs", "2h3h4h5h", "9sTsJsQsKs", "2c3c4c5c6c7c8c9cTcJcQcKcAc"} {
		if !impl.IsRunMeld(hand(s)) || impl.IsSetMeld(hand(s)) {
			t.Errorf("%s is no run", s)
		}
	}
	for _, s := range []string{"", "2d", "2d3d", "2d3d5d", "2d4d6d", "2d3d4h", "KcAc2c", "KcAc2d", "QcKcAc2d", "Ac2c3c", "Ac2d3d4d", "2d3d4d6d", "2c3c4c2d3d4d", "7c7d7h", "QcKcAc2d3d4d"} {
		if impl.IsRunMeld(hand(s)) {
			t.Errorf("%s is a run", s)
		}
	}
	for _, l := range [][]int{nil, {5, 5, 5}, {5, 6, 7, 7}, {5, 6, 6}, {50, 51, 52}, {-1, 0, 1}, {-3, -2, -1}, {52, 53, 54}, {12, 13, 14}, {11, 12, 13}, wholeDeck(), {math.MaxInt, math.MinInt, 0}} {
		if impl.IsRunMeld(l) {
			t.Errorf("%v is a run", l)
		}
	}
}

// All lists of three cards, and some of more, are what they should be.
func TestMeldKindsOfManyHands(t *testing.T) {
	for a := range 52 {
		for b := range a {
			for c := range b {
				l := []int{b, a, c}
				if impl.IsSetMeld(l) != slowIsSet(l) || impl.IsRunMeld(l) != slowIsRun(l) {
					t.Fatalf("%v: set %t, run %t", l, impl.IsSetMeld(l), impl.IsRunMeld(l))
				}
			}
		}
	}
	random := numbers{41}
	for range 3000 {
		l := random.meldHand(random.below(7))
		if impl.IsSetMeld(l) != slowIsSet(l) || impl.IsRunMeld(l) != slowIsRun(l) {
			t.Fatalf("%v: set %t, run %t", l, impl.IsSetMeld(l), impl.IsRunMeld(l))
		}
	}
}

func checkMelds(t *testing.T, l []int) {
	t.Helper()
	melds := slowMelds(l)
	if got := impl.MeldsIn(l); !equalRows(got, melds) {
		t.Errorf("MeldsIn(%v) is %v, not %v", l, got, melds)
	}
	want := slowLeft(l, melds)
	if got := impl.LeftOver(l); got != want {
		t.Errorf("LeftOver(%v) is %d, not %d", l, got, want)
	}
	if impl.CanGoOut(l) != (want == 0) {
		t.Errorf("CanGoOut(%v) is %t", l, want != 0)
	}
}

func TestMeldsIn(t *testing.T) {
	got := impl.MeldsIn(hand("5c2h3c2d4c2c"))
	if !equalRows(got, [][]int{hand("2c3c4c"), hand("2c3c4c5c"), hand("2c2d2h"), hand("3c4c5c")}) {
		t.Errorf("the melds are %v", got)
	}
	for s, count := range map[string]int{
		"": 0, "7c": 0, "7c7d": 0, "7c7d7h": 1, "7c7d7h7s": 5, "2c3c4c": 1, "2c3c4c5c": 3, "KcAc2c3c": 0, "QcKcAc2d3d4d": 2,
		"2c3c4c5c6c7c8c9cTcJcQcKc": 55, "2c2d2h2s3c3d3h3s4c4d4h4s": 19,
	} {
		if got := impl.MeldsIn(hand(s)); len(got) != count {
			t.Errorf("%s has the melds %v", s, got)
		}
		checkMelds(t, hand(s))
	}
}

// Promise 10: of all parts of a hand, just the melds are found, in order.
func TestEveryMeldIsFound(t *testing.T) {
	random := numbers{43}
	for range 200 {
		checkMelds(t, random.meldHand(random.below(11)))
		checkMelds(t, random.someHand(random.below(10)))
	}
	for range 10 {
		checkMelds(t, random.meldHand(12))
	}
}

func TestMeldsInvalid(t *testing.T) {
	lists := append([][]int{wholeDeck(), wholeDeck()[:13], wholeDeck()[20:33], {5, 18, 31, 31}, {5, 18, 31, 52}, {-1, 5, 6, 7}}, oddLists...)
	for _, l := range lists {
		if got := impl.MeldsIn(l); len(got) != 0 {
			t.Errorf("MeldsIn(%v) is %v", l, got)
		}
		if impl.LeftOver(l) != -1 || impl.CanGoOut(l) {
			t.Errorf("LeftOver(%v) is %d, CanGoOut %t", l, impl.LeftOver(l), impl.CanGoOut(l))
		}
	}
	if got := impl.MeldsIn(wholeDeck()[:12]); len(got) != 55 {
		t.Errorf("twelve cards have %d melds", len(got))
	}
}

func TestValueOf(t *testing.T) {
	for c := range 52 {
		if got := impl.ValueOf(c); got != slowValue(c) {
			t.Errorf("ValueOf(%d) is %d", c, got)
		}
	}
	for _, c := range noCards {
		if got := impl.ValueOf(c); got != 0 {
			t.Errorf("ValueOf(%d) is %d", c, got)
		}
	}
}

// Melds that share cards cannot both be taken out.
func TestLeftOver(t *testing.T) {
	for s, want := range map[string]int{
		"": 0, "2c": 2, "Tc": 10, "Jc": 10, "Kd": 10, "As": 1, "9c5d": 14, "7c7d": 14,
		"7c7d7h": 0, "7c7d7h7s": 0, "AcKcQc": 0, "Ac2c3c": 6, "KcAc2c": 13,
		"2c3c4c5c2d2h": 0, "2c3c4c2d2h": 4, "2c3c4cKd": 10,
		"7c8c9c7d7h": 14, "7c8c9c7d7h7s": 0, "Kc2c3c4c2d2hKh": 24,
		"2c3c4c5c6c4d4h": 8, "2c3c4c5c6c7c8c5d5h": 0,
		"QcQdQhKcKdKhAcAdAh": 0, "QcKcAcQdKdAdQhKhAhJsJh": 10,
		"2c3c4c5c6c7c8c9cTcJcQcKc": 0, "2c2d2h2s3c3d3h3s4c4d4h4s": 0,
	} {
		if got := impl.LeftOver(hand(s)); got != want {
			t.Errorf("LeftOver of %s is %d, not %d", s, got, want)
		}
		if impl.CanGoOut(hand(s)) != (want == 0) {
			t.Errorf("with %s one can go out: %t", s, want != 0)
		}
	}
	if impl.LeftOver(nil) != 0 || !impl.CanGoOut(nil) || len(impl.MeldsIn(nil)) != 0 {
		t.Errorf("no cards: %d, %t", impl.LeftOver(nil), impl.CanGoOut(nil))
	}
}

func TestMeldsKeepArguments(t *testing.T) {
	for _, l := range [][]int{{}, {5}, hand("5c2h3c2d4c2c"), hand("7c7d7h7s"), {5, 5, 5}, wholeDeck()} {
		keepsRows(t, "MeldsIn", [][]int{l}, func(rows [][]int) [][]int { return impl.MeldsIn(rows[0]) })
		keepsInts(t, "LeftOver and others", l, func(l []int) []int {
			impl.LeftOver(l)
			impl.CanGoOut(l)
			impl.IsSetMeld(l)
			impl.IsRunMeld(l)
			return nil
		})
	}
}
