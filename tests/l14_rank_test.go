package tests

import (
	"math"
	"slices"
	"strings"
	"testing"

	"loop.example/g03010/impl"
)

// slowKey counts the cards of each rank, and looks for straights among all that there are.
func slowKey(l []int) []int {
	count := map[int]int{}
	suits := map[int]bool{}
	for _, c := range l {
		count[c%13]++
		suits[c/13] = true
	}
	ranks := []int{}
	for wanted := 4; wanted >= 1; wanted-- {
		for r := 12; r >= 0; r-- {
			if count[r] == wanted {
				ranks = append(ranks, r)
			}
		}
	}
	top := -1
	for highest := 3; highest <= 12; highest++ {
		whole := true
		for below := range 5 {
			whole = whole && count[(highest-below+13)%13] == 1
		}
		if whole {
			top = highest
		}
	}
	shape := ""
	for _, r := range ranks {
		shape += string(rune('0' + count[r]))
	}
	switch {
	case top >= 0 && len(suits) == 1:
		return []int{8, top}
	case shape == "41":
		return append([]int{7}, ranks...)
	case shape == "32":
		return append([]int{6}, ranks...)
	case len(suits) == 1:
		return append([]int{5}, ranks...)
	case top >= 0:
		return []int{4, top}
	case shape == "311":
		return append([]int{3}, ranks...)
	case shape == "221":
		return append([]int{2}, ranks...)
	case shape == "2111":
		return append([]int{1}, ranks...)
	}
	return append([]int{0}, ranks...)
}

// slowBest tries all parts of five cards.
func slowBest(l []int) []int {
	best := []int{}
	for _, part := range partsOf(l) {
		if len(part) != 5 {
			continue
		}
		order := 1
		if len(best) > 0 {
			order = slices.Compare(slowKey(part), slowKey(best))
		}
		if order > 0 || order == 0 && slices.Compare(part, best) < 0 {
			best = part
		}
	}
	return best
}

// notFive are hands of other sizes, and lists of five that are no hands.
var notFive = [][]int{
	nil, {}, {0}, {0, 1, 2, 3}, {0, 1, 2, 3, 4, 5}, hand("2c3c4c5c6c7c8c"), wholeDeck(),
	{0, 1, 2, 3, 3}, {0, 0, 1, 2, 3}, {0, 0, 0, 0, 0}, {0, 1, 2, 3, 52}, {-1, 0, 1, 2, 3}, {48, 49, 50, 51, 52}, {0, 1, 2, 3, math.MaxInt}, {0, 1, 2, 3, math.MinInt},
}

func TestKinds(t *testing.T) {
	if !slices.Equal([]int{impl.PkHigh, impl.PkPair, impl.PkTwo, impl.PkThree, impl.PkStraight, impl.PkFlush, impl.PkFull, impl.PkFour, impl.PkStraightFlush}, countUp(0, 9)) {
		t.Errorf("other numbers of kinds")
	}
	for _, c := range []struct {
		s   string
		key []int
	}{
		{"2c5d9hJsAc", []int{0, 12, 9, 7, 3, 0}},
		{"7c5d4h3s2c", []int{0, 5, 3, 2, 1, 0}},
		{"2c2d9hJsAc", []int{1, 0, 12, 9, 7}},
		{"AcAd2h3s4c", []int{1, 12, 2, 1, 0}},
		{"2c2d9h9sAc", []int{2, 7, 0, 12}},
		{"2c2dAhAs9c", []int{2, 12, 0, 7}},
		{"KcKdAhAs2c", []int{2, 12, 11, 0}},
		{"2c2d2hJsAc", []int{3, 0, 12, 9}},
		{"AcAdAh2s3c", []int{3, 12, 1, 0}},
		{"2c3d4h5s6c", []int{4, 4}},
		{"TcJdQhKsAc", []int{4, 12}},
		{"9cTdJhQsKc", []int{4, 11}},
		{"6d3c5h2s4c", []int{4, 4}},
		{"2c5c9cJcAc", []int{5, 12, 9, 7, 3, 0}},
		{"2s3s4s5s7s", []int{5, 5, 3, 2, 1, 0}},
		{"2c2d2hAsAc", []int{6, 0, 12}},
		{"2c2dAhAsAc", []int{6, 12, 0}},
		{"2c2d2h2sAc", []int{7, 0, 12}},
		{"AcAdAhAs2c", []int{7, 12, 0}},
		{"2c3c4c5c6c", []int{8, 4}},
		{"AhKhQhJhTh", []int{8, 12}},
	} {
		if got := impl.KindOf(hand(c.s)); got != c.key[0] {
			t.Errorf("the kind of %s is %d", c.s, got)
		}
		if got := impl.KeyOf(hand(c.s)); !slices.Equal(got, c.key) {
			t.Errorf("the key of %s is %v, not %v", c.s, got, c.key)
		}
	}
	for _, l := range notFive {
		if impl.KindOf(l) != -1 || len(impl.KeyOf(l)) != 0 {
			t.Errorf("%v: kind %d, key %v", l, impl.KindOf(l), impl.KeyOf(l))
		}
	}
}

// In a straight an ace may be the lowest card, but then the five is the highest one, and it may not stand in the middle.
func TestStraightsWithALowAce(t *testing.T) {
	for s, key := range map[string][]int{
		"Ac2d3h4s5c": {4, 3}, "5c4d3h2sAc": {4, 3}, "3hAs5c2d4c": {4, 3}, "Ad2d3d4d5d": {8, 3}, "5s4s3s2sAs": {8, 3},
		"KcAd2h3s4c": {0, 12, 11, 2, 1, 0}, "QcKdAh2s3c": {0, 12, 11, 10, 1, 0}, "JcQdKhAs2c": {0, 12, 11, 10, 9, 0},
		"KcAc2c3c4c": {5, 12, 11, 2, 1, 0}, "JdQdKdAd2d": {5, 12, 11, 10, 9, 0}, "Ac2d3h4s6c": {0, 12, 4, 2, 1, 0}, "Ac2d3h5s6c": {0, 12, 4, 3, 1, 0},
		"Ac3d4h5s6c": {0, 12, 4, 3, 2, 1}, "Ac2d3h4s4c": {1, 2, 12, 1, 0}, "2c3d4h5s7c": {0, 5, 3, 2, 1, 0}, "Ac5d5h4s2c": {1, 3, 12, 2, 0},
	} {
		if got := impl.KeyOf(hand(s)); !slices.Equal(got, key) {
			t.Errorf("the key of %s is %v, not %v", s, got, key)
		}
	}
	if impl.CompareFive(hand("Ac2d3h4s5c"), hand("2c3d4h5s6c")) != -1 || impl.CompareFive(hand("Ac2d3h4s5c"), hand("AdAhAsKcQd")) != 1 {
		t.Errorf("a straight with a low ace is not between three aces and the next straight")
	}
	if got := impl.BestFive(hand("Ac2d3h4s5c6d")); !slices.Equal(got, slices.Sorted(slices.Values(hand("2d3h4s5c6d")))) {
		t.Errorf("the best five are %v", got)
	}
	if got := impl.BestFive(hand("Ac2d3h4s5cAdAh")); !slices.Equal(got, slices.Sorted(slices.Values(hand("Ac2d3h4s5c")))) {
		t.Errorf("the best five are %v", got)
	}
}

// someFive returns five cards of few ranks or suits, so that all kinds occur.
func (n *numbers) someFive(size int) []int {
	switch n.below(4) {
	case 0:
		return n.someHand(size)
	case 1:
		return n.meldHand(size)
	}
	l := []int{}
	width := 2 + n.below(6)
	first := n.below(13)
	for _, c := range n.someHand(52) {
		if (c-first+52)%13 < width && len(l) < size {
			l = append(l, c)
		}
	}
	return l
}

func TestKeysOfManyHands(t *testing.T) {
	random := numbers{71}
	kinds := [9]int{}
	for range 20000 {
		l := random.someFive(5)
		want := slowKey(l)
		if got := impl.KeyOf(l); !slices.Equal(got, want) {
			t.Fatalf("the key of %s is %v, not %v", impl.HandText(l), got, want)
		}
		if got := impl.KindOf(l); got != want[0] {
			t.Fatalf("the kind of %s is %d", impl.HandText(l), got)
		}
		kinds[want[0]]++
	}
	if slices.Contains(kinds[:], 0) {
		t.Errorf("not all kinds have occurred: %v", kinds)
	}
}

// Of all hands of five there are just so many of each kind.
func TestNumbersOfKinds(t *testing.T) {
	numbers := [9]int{}
	l := make([]int, 5)
	for l[0] = 0; l[0] < 52; l[0]++ {
		for l[1] = l[0] + 1; l[1] < 52; l[1]++ {
			for l[2] = l[1] + 1; l[2] < 52; l[2]++ {
				for l[3] = l[2] + 1; l[3] < 52; l[3]++ {
					for l[4] = l[3] + 1; l[4] < 52; l[4]++ {
						numbers[impl.KindOf(l)]++
					}
				}
			}
		}
	}
	if numbers != [9]int{1302540, 1098240, 123552, 54912, 10200, 5108, 3744, 624, 40} {
		t.Errorf("the numbers of hands are %v", numbers)
	}
}

func TestCompareFive(t *testing.T) {
	for _, c := range []struct {
		a, b string
		want int
	}{
		{"2c2d9hJsAc", "2h2s9cJdKc", 1},
		{"2c2d9hJsAc", "2h2s9cJdAd", 0},
		{"3c3d2h4s5c", "2c2dAhKsQc", 1},
		{"2c2d2h4s5c", "AcAdKhKsQc", 1},
		{"2c3d4h5s7c", "AcKdQhJs9c", -1},
		{"AcKdQhJs9c", "AcKdQhJs8c", 1},
		{"2c3c4c5c7c", "TcJdQhKsAc", 1},
		{"2c2d2h3s3c", "AcKcQcJc9c", 1},
		{"2c2d2h2s3c", "AcAdAhKsKc", 1},
		{"Ac2c3c4c5c", "AcAdAhAsKc", 1},
		{"Ac2c3c4c5c", "2d3d4d5d6d", -1},
		{"3c3d3h2s2c", "2c2d2hAsAc", 1},
		{"KcKd3h3s2c", "KhKs2h2dAc", 1},
		{"TcJcQcKcAc", "ThJhQhKhAh", 0},
	} {
		if got := impl.CompareFive(hand(c.a), hand(c.b)); got != c.want {
			t.Errorf("CompareFive(%s, %s) is %d", c.a, c.b, got)
		}
		if got := impl.CompareFive(hand(c.b), hand(c.a)); got != -c.want {
			t.Errorf("CompareFive(%s, %s) is %d", c.b, c.a, got)
		}
	}
	random := numbers{73}
	for range 5000 {
		a, b := random.someFive(5), random.someFive(5)
		if got, want := impl.CompareFive(a, b), slices.Compare(slowKey(a), slowKey(b)); got != want {
			t.Errorf("CompareFive(%v, %v) is %d, not %d", a, b, got, want)
		}
	}
	for _, l := range notFive {
		if impl.CompareFive(l, hand("2c3c4c5c6c")) != 0 || impl.CompareFive(hand("2c5d9hJsAc"), l) != 0 || impl.CompareFive(l, l) != 0 || impl.CompareFive(l, nil) != 0 {
			t.Errorf("%v is compared", l)
		}
	}
}

func TestBestFive(t *testing.T) {
	for s, want := range map[string]string{
		"2c3c4c5c6c7c8d": "3c4c5c6c7c",
		"2c2d9hJsAc3d":   "2cAc2d9hJs",
		"2c2d9hJsAc":     "2cAc2d9hJs",
		"AsAhAdAcKsKhKd": "KdAcAdAhAs",
		"2c2d2h3c3d3h":   "2c2d3c3d3h",
		"AcAdKcKdQcQdJs": "AcAdKcKdQc",
		"2c3d4h5s7c2d3c": "2c3c2d3d7c",
		"TsJsQsKsAs9s8s": "TsJsQsKsAs",
		"2s3s4s5s7s9hKh": "2s3s4s5s7s",
		"5c6d7h8s9c5d5h": "5c6d7h8s9c",
		"7c7d7h7s2c2d2h": "2c7c7d7h7s",
		"Kc9d8h7s5c3d2h": "5cKc9d8h7s",
		"KcKdKhKsAcAd2c": "KcKdKhKsAc",
		"Ac2c3c4c5c6d7d": "Ac2c3c4c5c",
	} {
		l := hand(s)
		sorted := slices.Sorted(slices.Values(hand(want)))
		if got := impl.BestFive(l); !slices.Equal(got, sorted) {
			t.Errorf("the best five of %s are %s", s, impl.HandText(got))
		}
	}
	for size := range 5 {
		if got := impl.BestFive(wholeDeck()[:size]); len(got) != 0 {
			t.Errorf("of %d cards the best five are %v", size, got)
		}
	}
	for _, l := range [][]int{wholeDeck()[:8], wholeDeck(), {0, 1, 2, 3, 3}, {0, 1, 2, 3, 4, 4}, {0, 1, 2, 3, 4, 5, 5}, {0, 1, 2, 3, 4, 52}, {0, 1, 2, 3, 4, -1}, {0, 1, 2, 3, 4, 5, 99}} {
		if got := impl.BestFive(l); len(got) != 0 {
			t.Errorf("of %v the best five are %v", l, got)
		}
	}
}

// Promise 14: the best five are of the hand and not less than any five of it, and the first ones among as good ones.
func TestNoFiveAreBetterThanTheBest(t *testing.T) {
	random := numbers{79}
	for range 1500 {
		l := random.someFive(5 + random.below(3))
		best := impl.BestFive(l)
		if want := slowBest(l); !slices.Equal(best, want) {
			t.Errorf("the best five of %s are %s, not %s", impl.HandText(l), impl.HandText(best), impl.HandText(want))
		}
		for _, part := range partsOf(l) {
			if len(part) == 5 && impl.CompareFive(best, part) < 0 {
				t.Errorf("of %v, %v are better than %v", l, part, best)
			}
		}
		slices.Reverse(l)
		if again := impl.BestFive(l); !slices.Equal(again, best) {
			t.Errorf("the other way round, the best five of %v are %v", l, again)
		}
	}
}

func TestKindName(t *testing.T) {
	for kind, want := range strings.Fields("high pair two three straight flush full four straightflush") {
		if got := impl.KindName(kind); got != want {
			t.Errorf("KindName(%d) is %q, not %q", kind, got, want)
		}
	}
	for _, kind := range []int{-1, -2, 9, 10, 100, math.MinInt, math.MaxInt} {
		if got := impl.KindName(kind); got != "" {
			t.Errorf("KindName(%d) is %q", kind, got)
		}
	}
}

func TestFivesKeepArguments(t *testing.T) {
	for _, l := range append(notFive, hand("2c5d9hJsAc"), hand("Ac2c3c4c5c"), hand("Ac2c2d9h9s3d"), hand("9s2c3c4c5c6c7c")) {
		keepsInts(t, "KeyOf", l, impl.KeyOf)
		keepsInts(t, "BestFive", l, impl.BestFive)
		keepsInts(t, "KindOf and others", l, func(l []int) []int {
			impl.KindOf(l)
			impl.CompareFive(l, l)
			return nil
		})
	}
}
