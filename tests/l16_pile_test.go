package tests

import (
	"math"
	"slices"
	"testing"

	"loop.example/g03010/impl"
)

func pileOf(s string, hidden int) impl.Pile {
	return impl.Pile{Cards: hand(s), Hidden: hidden}
}

func clonePile(p impl.Pile) impl.Pile {
	return impl.Pile{Cards: slices.Clone(p.Cards), Hidden: p.Hidden}
}

func equalPiles(a impl.Pile, b impl.Pile) bool {
	return slices.Equal(a.Cards, b.Cards) && a.Hidden == b.Hidden
}

func slowIsRed(c int) bool {
	return c/13 == 1 || c/13 == 2
}

func slowGoesOn(below int, c int) bool {
	return below%13 == c%13+1 && slowIsRed(below) != slowIsRed(c)
}

func slowIsPile(p impl.Pile) bool {
	for i, c := range p.Cards {
		if c < 0 || c > 51 || slices.Index(p.Cards, c) != i {
			return false
		}
		if i > p.Hidden && p.Hidden >= 0 && !slowGoesOn(p.Cards[i-1], c) {
			return false
		}
	}
	return p.Hidden >= 0 && p.Hidden <= len(p.Cards)
}

func slowMayStack(p impl.Pile, c int) bool {
	if !slowIsPile(p) || c < 0 || c > 51 || slices.Contains(p.Cards, c) {
		return false
	}
	if len(p.Cards) == 0 {
		return c%13 == 11
	}
	return p.Hidden < len(p.Cards) && slowGoesOn(p.Cards[len(p.Cards)-1], c)
}

// somePile returns a pile with some cards face down and a row of open ones.
func (n *numbers) somePile(hidden int, open int) impl.Pile {
	cards := n.someHand(hidden)
	p := impl.Pile{Cards: cards, Hidden: hidden}
	left := []int{}
	for _, c := range n.someHand(52) {
		if !slices.Contains(cards, c) {
			left = append(left, c)
		}
	}
	if open > 0 {
		p.Cards = append(p.Cards, left[0])
	}
	for range open - 1 {
		next := slices.IndexFunc(left, func(c int) bool { return slowGoesOn(p.Cards[len(p.Cards)-1], c) && !slices.Contains(p.Cards, c) })
		if next < 0 {
			break
		}
		p.Cards = append(p.Cards, left[next])
	}
	return p
}

var validPiles = []impl.Pile{
	{}, {Cards: []int{}}, pileOf("Kc", 0), pileOf("Kc", 1), pileOf("2c", 0), pileOf("2c", 1), pileOf("2c9s8h7c", 1), pileOf("9s8h7c", 0), pileOf("9s8h7c", 3), pileOf("9s8h7c", 2),
	pileOf("KsQhJcTd9s8h7c6d5s4h3c2d", 0), pileOf("3h2s", 0), pileOf("2s3h", 1), pileOf("2s3h", 2), pileOf("AsKd", 1), pileOf("AsKd", 0), pileOf("AhKcQd", 1), {Cards: wholeDeck(), Hidden: 51}, {Cards: wholeDeck(), Hidden: 52},
}

// notPiles are piles that are wrong in one way each.
var notPiles = []impl.Pile{
	{Hidden: 1}, {Hidden: -1}, {Hidden: math.MaxInt}, {Hidden: math.MinInt},
	pileOf("2c", 2), pileOf("2c", -1), pileOf("9s8h7c", 4), pileOf("9s8h7c", -1), pileOf("9s8h7c", math.MaxInt), pileOf("9s8h7c", math.MinInt),
	pileOf("9s8c", 0), pileOf("9s8s", 0), pileOf("9h8d", 0), pileOf("9h8h", 0), pileOf("9s7h", 0), pileOf("9s9h", 0), pileOf("8h9s", 0), pileOf("9sTh", 0), pileOf("Kc2d", 0), pileOf("2dAc", 0), pileOf("9s2h8h", 0), pileOf("Th9s8h7h", 1), pileOf("2cTh9s7h", 1), pileOf("Th9c8s7h", 0),
	{Cards: []int{3, 3}, Hidden: 2}, {Cards: []int{3, 3}, Hidden: 1}, {Cards: []int{3, 3}}, {Cards: []int{33, 3, 33}, Hidden: 3},
	{Cards: []int{52}}, {Cards: []int{52}, Hidden: 1}, {Cards: []int{-1}}, {Cards: []int{-1, 5}, Hidden: 1}, {Cards: []int{math.MaxInt, 5}, Hidden: 2}, {Cards: []int{25, 24, 52 + 10}, Hidden: 2},
	{Cards: wholeDeck(), Hidden: 50}, {Cards: wholeDeck()}, {Cards: append(wholeDeck(), 0), Hidden: 53},
}

func TestIsPile(t *testing.T) {
	for _, p := range validPiles {
		if !impl.IsPile(p) || !slowIsPile(p) {
			t.Errorf("%v is no pile", p)
		}
		if got := impl.OpenCards(p); got != len(p.Cards)-p.Hidden {
			t.Errorf("of %v, %d cards lie open", p, got)
		}
	}
	for _, p := range notPiles {
		if impl.IsPile(p) || slowIsPile(p) {
			t.Errorf("%v is a pile", p)
		}
		if got := impl.OpenCards(p); got != 0 {
			t.Errorf("of %v, %d cards lie open", p, got)
		}
	}
	for _, l := range oddLists {
		for hidden := -1; hidden <= len(l)+1; hidden++ {
			p := impl.Pile{Cards: l, Hidden: hidden}
			if impl.IsPile(p) || impl.OpenCards(p) != 0 {
				t.Errorf("%v is a pile", p)
			}
		}
	}
}

// Of two open cards, every pair is tried.
func TestPilesOfTwo(t *testing.T) {
	for a := range 52 {
		for b := range 52 {
			for hidden := range 3 {
				p := impl.Pile{Cards: []int{a, b}, Hidden: hidden}
				want := a != b && (hidden > 0 || slowGoesOn(a, b))
				if impl.IsPile(p) != want {
					t.Errorf("%s with %d face down is a pile: %t", impl.HandText(p.Cards), hidden, !want)
				}
			}
		}
	}
}

func TestTopOf(t *testing.T) {
	for _, p := range slices.Concat(validPiles, notPiles) {
		want := -1
		if len(p.Cards) > 0 {
			want = p.Cards[len(p.Cards)-1]
		}
		if got := impl.TopOf(p); got != want {
			t.Errorf("TopOf(%v) is %d", p, got)
		}
	}
}

func TestMayStack(t *testing.T) {
	for _, p := range slices.Concat(validPiles, notPiles) {
		for _, c := range slices.Concat(wholeDeck(), noCards) {
			want := slowMayStack(p, c)
			if got := impl.MayStack(p, c); got != want {
				t.Errorf("MayStack(%v, %d) is %t", p, c, got)
			}
			got, ok := impl.Stacked(p, []int{c})
			wanted := clonePile(p)
			if want {
				wanted.Cards = append(wanted.Cards, c)
			}
			if ok != want || !equalPiles(got, wanted) {
				t.Errorf("Stacked(%v, %d) is %v, %t", p, c, got, ok)
			}
		}
	}
	for a := range 52 {
		for c := range 52 {
			if got, want := impl.MayStack(impl.Pile{Cards: []int{a}}, c), slowGoesOn(a, c); got != want {
				t.Errorf("on %d, %d may be put: %t", a, c, got)
			}
			if impl.MayStack(impl.Pile{Cards: []int{a}, Hidden: 1}, c) {
				t.Errorf("on %d face down, %d may be put", a, c)
			}
		}
	}
}

func TestStacked(t *testing.T) {
	for _, c := range []struct {
		p     impl.Pile
		cards string
		want  impl.Pile
		ok    bool
	}{
		{pileOf("2c9s", 1), "8d7s", pileOf("2c9s8d7s", 1), true},
		{pileOf("2c9s", 1), "8d7h", pileOf("2c9s", 1), false},
		{pileOf("2c9s", 1), "8d7s6s", pileOf("2c9s", 1), false},
		{pileOf("2c9s", 1), "8s", pileOf("2c9s", 1), false},
		{pileOf("2c9s", 1), "7d8d", pileOf("2c9s", 1), false},
		{pileOf("2c9s", 2), "8d", pileOf("2c9s", 2), false},
		{pileOf("8d9s", 1), "8d", pileOf("8d9s", 1), false},
		{pileOf("8d9s", 1), "8h", pileOf("8d9s8h", 1), true},
		{pileOf("7c9s", 1), "8d7c", pileOf("7c9s", 1), false},
		{impl.Pile{}, "KdQsJhTc9d8s7h6c5d4s3h2c", pileOf("KdQsJhTc9d8s7h6c5d4s3h2c", 0), true},
		{impl.Pile{}, "KdQsJhTc9d8s7h6c5d4s3h2cAd", impl.Pile{}, false},
		{impl.Pile{}, "Qs", impl.Pile{}, false},
		{impl.Pile{}, "As", impl.Pile{}, false},
		{impl.Pile{}, "", impl.Pile{}, true},
		{pileOf("2d", 0), "Ac", pileOf("2d", 0), false},
		{pileOf("2c9s", 1), "", pileOf("2c9s", 1), true},
		{pileOf("2c", 1), "", pileOf("2c", 1), true},
	} {
		got, ok := impl.Stacked(c.p, hand(c.cards))
		if ok != c.ok || !equalPiles(got, c.want) {
			t.Errorf("Stacked(%v, %s) is %v, %t", c.p, c.cards, got, ok)
		}
	}
	for _, p := range notPiles {
		for _, cards := range [][]int{{5}, hand("Kc"), hand("8d7s"), {52}} {
			if got, ok := impl.Stacked(p, cards); ok || !equalPiles(got, p) {
				t.Errorf("Stacked(%v, %v) is %v, %t", p, cards, got, ok)
			}
		}
		if got, ok := impl.Stacked(p, nil); !ok || !equalPiles(got, p) {
			t.Errorf("Stacked(%v, nil) is %v, %t", p, got, ok)
		}
	}
}

func checkNotLifted(t *testing.T, p impl.Pile, n int) {
	t.Helper()
	if got, cards, ok := impl.Lifted(p, n); ok || len(cards) != 0 || !equalPiles(got, p) {
		t.Errorf("Lifted(%v, %d) is %v, %v, %t", p, n, got, cards, ok)
	}
}

func TestLifted(t *testing.T) {
	for _, c := range []struct {
		p     impl.Pile
		n     int
		want  impl.Pile
		cards string
	}{
		{pileOf("2c9s8h7c", 1), 1, pileOf("2c9s8h", 1), "7c"},
		{pileOf("2c9s8h7c", 1), 2, pileOf("2c9s", 1), "8h7c"},
		{pileOf("2c9s8h7c", 1), 3, pileOf("2c", 0), "9s8h7c"},
		{pileOf("2cKd9s", 2), 1, pileOf("2cKd", 1), "9s"},
		{pileOf("2cKdAs5c", 3), 1, pileOf("2cKdAs", 2), "5c"},
		{pileOf("9s8h7c", 0), 3, impl.Pile{}, "9s8h7c"},
		{pileOf("9s8h7c", 0), 2, pileOf("9s", 0), "8h7c"},
		{pileOf("Kc", 0), 1, impl.Pile{}, "Kc"},
	} {
		got, cards, ok := impl.Lifted(c.p, c.n)
		if !ok || !equalPiles(got, c.want) || !slices.Equal(cards, hand(c.cards)) {
			t.Errorf("Lifted(%v, %d) is %v, %v, %t", c.p, c.n, got, cards, ok)
		}
	}
	for _, p := range validPiles {
		open := len(p.Cards) - p.Hidden
		for _, n := range []int{0, -1, open + 1, len(p.Cards) + 1, 53, math.MinInt, math.MaxInt} {
			checkNotLifted(t, p, n)
		}
	}
	for _, p := range notPiles {
		for _, n := range append(countUp(-1, len(p.Cards)+2), math.MinInt, math.MaxInt) {
			checkNotLifted(t, p, n)
		}
	}
}

// Promise 16: what is stacked or lifted leaves a pile, and no card is lost, comes twice or lies in another order.
func TestPilesStayPiles(t *testing.T) {
	random := numbers{103}
	for range 1500 {
		p := random.somePile(random.below(8), random.below(9))
		if !impl.IsPile(p) || !slowIsPile(p) {
			t.Fatalf("%v is no pile", p)
		}
		for n := 1; n <= impl.OpenCards(p); n++ {
			left, cards, ok := impl.Lifted(p, n)
			if !ok || !impl.IsPile(left) || !slices.Equal(slices.Concat(left.Cards, cards), p.Cards) || len(cards) != n {
				t.Errorf("Lifted(%v, %d) is %v, %v, %t", p, n, left, cards, ok)
			}
			if want := min(p.Hidden, max(0, len(left.Cards)-1)); left.Hidden != want {
				t.Errorf("of %v, %d lie face down", left, left.Hidden)
			}
			if left.Hidden == p.Hidden && len(left.Cards) > 0 {
				if again, ok := impl.Stacked(left, cards); !ok || !equalPiles(again, p) {
					t.Errorf("%v on %v is %v, %t", cards, left, again, ok)
				}
			}
		}
		for range 5 {
			cards := random.someHand(random.below(4))
			next, ok := impl.Stacked(p, cards)
			if !impl.IsPile(next) || ok && !slices.Equal(next.Cards, slices.Concat(p.Cards, cards)) || !ok && !equalPiles(next, p) || next.Hidden != p.Hidden {
				t.Errorf("Stacked(%v, %v) is %v, %t", p, cards, next, ok)
			}
		}
	}
}

func TestPilesKeepArguments(t *testing.T) {
	for _, p := range slices.Concat(validPiles, notPiles) {
		for _, cards := range [][]int{nil, hand("8d7s"), hand("Kc"), {52}} {
			keepsRows(t, "Stacked", [][]int{p.Cards, cards}, func(rows [][]int) [][]int {
				next, _ := impl.Stacked(impl.Pile{Cards: rows[0], Hidden: p.Hidden}, rows[1])
				return [][]int{next.Cards}
			})
		}
		for n := -1; n <= 3; n++ {
			keepsRows(t, "Lifted", [][]int{p.Cards}, func(rows [][]int) [][]int {
				next, cards, _ := impl.Lifted(impl.Pile{Cards: rows[0], Hidden: p.Hidden}, n)
				return [][]int{next.Cards, cards}
			})
		}
		keepsInts(t, "IsPile and others", p.Cards, func(cards []int) []int {
			p := impl.Pile{Cards: cards, Hidden: p.Hidden}
			impl.IsPile(p)
			impl.TopOf(p)
			impl.MayStack(p, 5)
			impl.OpenCards(p)
			return nil
		})
	}
}
