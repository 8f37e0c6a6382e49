package tests

import (
	"math"
	"slices"
	"testing"

	"loop.example/g03010/impl"
)

func equalSights(a impl.Sight, b impl.Sight) bool {
	return a.Me == b.Me && slices.Equal(a.Hand, b.Hand) && slices.Equal(a.Trick, b.Trick) && a.Leader == b.Leader && a.Trump == b.Trump && slices.Equal(a.Sizes, b.Sizes) && slices.Equal(a.Won, b.Won)
}

func isZeroSight(s impl.Sight) bool {
	return equalSights(s, impl.Sight{})
}

// someDeal returns a deal some cards of which are played, at random.
func (n *numbers) someDeal(t *testing.T) impl.Deal {
	t.Helper()
	players := 2 + n.below(3)
	each := n.below(8)
	d := newDeal(t, n.someHands(players, each), n.below(players), n.below(5)-1)
	for range n.below(players*each + 1) {
		choices := impl.Choices(d.Hands[impl.TurnOf(d)], d.Trick)
		d, _ = impl.PlayCard(d, choices[n.below(len(choices))])
	}
	return d
}

func sightOf(t *testing.T, d impl.Deal, me int) impl.Sight {
	t.Helper()
	s, ok := impl.SightOf(d, me)
	if !ok {
		t.Fatalf("SightOf(%v, %d) is false", d, me)
	}
	return s
}

// playedDeal has a trick in which the player 2 has followed and the player 0 has not.
func playedDeal(t *testing.T) impl.Deal {
	t.Helper()
	d, n := impl.PlayAll(newDeal(t, [][]int{hand("AsKc"), hand("2d3c"), hand("6d5s"), hand("4d7c")}, 1, 3), hand("2d6d4d"))
	d, ok := impl.PlayCard(d, 51)
	if n != 3 || !ok {
		t.Fatalf("%d cards were played", n)
	}
	d, n = impl.PlayAll(d, hand("Kc3c5s"))
	if n != 3 {
		t.Fatalf("%d cards were played", n)
	}
	return d
}

func TestSightOf(t *testing.T) {
	random := numbers{149}
	for range 200 {
		d := random.someDeal(t)
		players := len(d.Hands)
		sizes := []int{}
		for _, l := range d.Hands {
			sizes = append(sizes, len(l))
		}
		for me := range players {
			s, ok := impl.SightOf(d, me)
			want := impl.Sight{Me: me, Hand: slices.Sorted(slices.Values(d.Hands[me])), Trick: d.Trick, Leader: d.Leader, Trump: d.Trump, Sizes: sizes, Won: d.Won}
			if !ok || !equalSights(s, want) {
				t.Errorf("SightOf(%v, %d) is %v, %t", d, me, s, ok)
			}
			if !impl.SameSight(s, want) {
				t.Errorf("%v and %v are not the same", s, want)
			}
		}
		for _, me := range []int{-2, -1, players, players + 1, math.MinInt, math.MaxInt} {
			if s, ok := impl.SightOf(d, me); ok || !isZeroSight(s) {
				t.Errorf("SightOf(%v, %d) is %v, %t", d, me, s, ok)
			}
		}
	}
}

func TestSightOfNoDeal(t *testing.T) {
	d := newDeal(t, [][]int{hand("AsKd2h"), hand("2d3c4h"), hand("5s6d6h")}, 2, -1)
	for _, c := range hand("5sAs") {
		for _, changed := range changedDeals(d) {
			for me := -1; me <= 3; me++ {
				if s, ok := impl.SightOf(changed, me); ok || !isZeroSight(s) {
					t.Errorf("SightOf(%v, %d) is %v, %t", changed, me, s, ok)
				}
				if got := impl.VoidIn(changed, me); got != -1 {
					t.Errorf("VoidIn(%v, %d) is %d", changed, me, got)
				}
				for b := -1; b <= 3; b++ {
					if got, ok := impl.SwapHidden(changed, me, b, 0, 0); ok || !equalDeals(got, changed) {
						t.Errorf("SwapHidden(%v, %d, %d) is %v, %t", changed, me, b, got, ok)
					}
				}
			}
		}
		d, _ = impl.PlayCard(d, c)
	}
}

func TestSameSight(t *testing.T) {
	s := impl.Sight{Me: 1, Hand: []int{3, 51}, Trick: []int{12, 1}, Leader: 2, Trump: -1, Sizes: []int{2, 2, 1}, Won: []int{0, 1, 0}}
	others := []impl.Sight{{}}
	change := func(f func(s *impl.Sight)) {
		other := impl.Sight{Me: s.Me, Hand: slices.Clone(s.Hand), Trick: slices.Clone(s.Trick), Leader: s.Leader, Trump: s.Trump, Sizes: slices.Clone(s.Sizes), Won: slices.Clone(s.Won)}
		f(&other)
		others = append(others, other)
	}
	change(func(s *impl.Sight) { s.Me = 0 })
	change(func(s *impl.Sight) { s.Me = math.MinInt })
	change(func(s *impl.Sight) { s.Leader = 1 })
	change(func(s *impl.Sight) { s.Trump = 3 })
	change(func(s *impl.Sight) { s.Leader, s.Trump = -1, 2 })
	for _, list := range []func(s *impl.Sight) *[]int{
		func(s *impl.Sight) *[]int { return &s.Hand },
		func(s *impl.Sight) *[]int { return &s.Trick },
		func(s *impl.Sight) *[]int { return &s.Sizes },
		func(s *impl.Sight) *[]int { return &s.Won },
	} {
		change(func(s *impl.Sight) { *list(s) = nil })
		change(func(s *impl.Sight) { l := list(s); *l = (*l)[1:] })
		change(func(s *impl.Sight) { l := list(s); *l = append(*l, 0) })
		change(func(s *impl.Sight) { l := list(s); (*l)[0]++ })
		change(func(s *impl.Sight) { l := list(s); (*l)[0] = -(*l)[0] - 1 })
		change(func(s *impl.Sight) { l := list(s); (*l)[len(*l)-1] += 1 << 32 })
		change(func(s *impl.Sight) { l := list(s); (*l)[len(*l)-1] = math.MaxInt })
		change(func(s *impl.Sight) { l := list(s); *l = []int{(*l)[0]*10 + (*l)[1]} })
		change(func(s *impl.Sight) { l := list(s); (*l)[0], (*l)[1] = (*l)[1], (*l)[0] })
	}
	change(func(s *impl.Sight) { s.Hand, s.Trick = s.Trick, s.Hand })
	change(func(s *impl.Sight) { s.Sizes, s.Won = s.Won, s.Sizes })
	change(func(s *impl.Sight) { s.Hand, s.Trick = append(s.Hand, s.Trick...), nil })
	for i, other := range append(others, s) {
		if !impl.SameSight(other, other) {
			t.Errorf("%v is not the same as itself", other)
		}
		if want := equalSights(s, other); impl.SameSight(s, other) != want || impl.SameSight(other, s) != want {
			t.Errorf("%d: %v and %v are the same: %t", i, s, other, !want)
		}
	}
	if !impl.SameSight(impl.Sight{}, impl.Sight{Hand: []int{}, Trick: []int{}, Sizes: []int{}, Won: []int{}}) {
		t.Errorf("nil and empty lists are not the same")
	}
	if impl.SameSight(impl.Sight{}, impl.Sight{Hand: []int{0}}) || impl.SameSight(impl.Sight{Won: []int{0}}, impl.Sight{Won: []int{0, 0}}) {
		t.Errorf("lists of another length are the same")
	}
}

func TestUnseen(t *testing.T) {
	for _, c := range []struct {
		hand, trick, gone []int
	}{
		{nil, nil, nil}, {hand("KdAs"), hand("2d5s"), hand("2c")}, {hand("KdAs"), nil, nil}, {nil, hand("KdAs"), nil}, {nil, nil, hand("KdAs")}, {hand("2c"), hand("2c"), hand("2c2c")},
		{wholeDeck(), nil, nil}, {wholeDeck()[:20], wholeDeck()[20:23], wholeDeck()[23:]}, {[]int{52, -1}, []int{99}, []int{math.MaxInt, math.MinInt, 5}}, {nil, nil, wholeDeck()[1:]},
	} {
		want := []int{}
		for card := range 52 {
			if !slices.Contains(slices.Concat(c.hand, c.trick, c.gone), card) {
				want = append(want, card)
			}
		}
		s := impl.Sight{Me: 9, Hand: c.hand, Trick: c.trick, Sizes: []int{7, 8}, Won: []int{9, 10}}
		if got := impl.Unseen(s, c.gone); !slices.Equal(got, want) {
			t.Errorf("Unseen(%v, %v) is %v", s, c.gone, got)
		}
		keepsRows(t, "Unseen", [][]int{c.hand, c.trick, c.gone}, func(rows [][]int) [][]int {
			return [][]int{impl.Unseen(impl.Sight{Hand: rows[0], Trick: rows[1]}, rows[2])}
		})
	}
}

func TestSwapHidden(t *testing.T) {
	d := newDeal(t, [][]int{hand("AsKd"), hand("2d3c"), hand("5s6s")}, 1, 3)
	d, _ = impl.PlayCard(d, 13)
	for _, c := range []struct {
		a, b, i, k int
		want       [][]int
	}{
		{0, 1, 0, 0, [][]int{hand("3cKd"), hand("As"), hand("5s6s")}},
		{1, 0, 0, 1, [][]int{hand("As3c"), hand("Kd"), hand("5s6s")}},
		{2, 0, 1, 0, [][]int{hand("6sKd"), hand("3c"), hand("5sAs")}},
		{0, 2, 1, 1, [][]int{hand("As6s"), hand("3c"), hand("5sKd")}},
	} {
		want := cloneDeal(d)
		want.Hands = c.want
		got, ok := impl.SwapHidden(d, c.a, c.b, c.i, c.k)
		if !ok || !equalDeals(got, want) || !impl.IsDeal(got) {
			t.Errorf("SwapHidden of %d, %d, %d, %d is %v, %t", c.a, c.b, c.i, c.k, got, ok)
		}
	}
	for _, c := range [][4]int{
		{0, 0, 0, 0}, {0, 0, 0, 1}, {1, 1, 0, 0}, {-1, -1, 0, 0}, {3, 3, 0, 0}, {-1, 0, 0, 0}, {0, -1, 0, 0}, {3, 0, 0, 0}, {0, 3, 0, 0}, {math.MaxInt, 0, 0, 0}, {0, math.MinInt, 0, 0},
		{0, 1, 0, 1}, {0, 1, 2, 0}, {1, 0, 1, 0}, {1, 0, 0, 2}, {0, 1, -1, 0}, {0, 1, 0, -1}, {0, 1, math.MaxInt, 0}, {0, 1, 0, math.MinInt}, {0, 2, 2, 2},
	} {
		if got, ok := impl.SwapHidden(d, c[0], c[1], c[2], c[3]); ok || !equalDeals(got, d) {
			t.Errorf("SwapHidden of %v is %v, %t", c, got, ok)
		}
	}
	over := newDeal(t, [][]int{nil, nil}, 0, 0)
	if got, ok := impl.SwapHidden(over, 0, 1, 0, 0); ok || !equalDeals(got, over) {
		t.Errorf("without cards SwapHidden is %v, %t", got, ok)
	}
}

func slowVoid(d impl.Deal, who int) int {
	for i, c := range d.Trick {
		if (d.Leader+i)%len(d.Hands) == who && c/13 != d.Trick[0]/13 {
			return d.Trick[0] / 13
		}
	}
	return -1
}

func TestVoidIn(t *testing.T) {
	d := playedDeal(t)
	for who, want := range map[int]int{-1: -1, 0: -1, 1: -1, 2: 0, 3: -1, 4: -1, math.MinInt: -1, math.MaxInt: -1} {
		if got := impl.VoidIn(d, who); got != want {
			t.Errorf("VoidIn(%v, %d) is %d, not %d", d, who, got, want)
		}
	}
	random := numbers{151}
	found := 0
	for range 600 {
		d := random.someDeal(t)
		for who := -2; who <= 6; who++ {
			want := slowVoid(d, who)
			if got := impl.VoidIn(d, who); got != want {
				t.Errorf("VoidIn(%v, %d) is %d, not %d", d, who, got, want)
			}
			if want >= 0 {
				found++
			}
		}
	}
	if found < 50 {
		t.Errorf("only %d players have put cards of another suit", found)
	}
	for who := -1; who <= 4; who++ {
		if got := impl.VoidIn(impl.Deal{}, who); got != -1 {
			t.Errorf("in the zero Deal, VoidIn is %d", got)
		}
	}
}

// Promise 20: what others exchange changes nothing of what one sees; who takes part sees the own new card.
func TestExchangesOfOthersAreNotSeen(t *testing.T) {
	random := numbers{157}
	for range 300 {
		d := random.someDeal(t)
		players := len(d.Hands)
		a, b, i, k := random.below(players), random.below(players), random.below(5), random.below(5)
		next, ok := impl.SwapHidden(d, a, b, i, k)
		if want := a != b && i < len(d.Hands[a]) && k < len(d.Hands[b]); ok != want || !impl.IsDeal(next) {
			t.Errorf("SwapHidden(%v, %d, %d, %d, %d) is %v, %t", d, a, b, i, k, next, ok)
		}
		if !ok && !equalDeals(next, d) {
			t.Errorf("%v became %v", d, next)
		}
		for me := range players {
			before, after := sightOf(t, d, me), sightOf(t, next, me)
			same := !ok || me != a && me != b
			if impl.SameSight(before, after) != same {
				t.Errorf("%d sees the same before and after %d and %d exchanged cards: %t", me, a, b, !same)
			}
			if slices.Equal(impl.Unseen(before, nil), impl.Unseen(after, nil)) != same {
				t.Errorf("what %d does not see is the same: %t", me, !same)
			}
		}
		if ok {
			back, _ := impl.SwapHidden(next, b, a, k, i)
			if !equalDeals(back, d) {
				t.Errorf("exchanged again, %v is %v", d, back)
			}
		}
	}
}

func TestSightsKeepArguments(t *testing.T) {
	random := numbers{163}
	for range 30 {
		d := random.someDeal(t)
		players := len(d.Hands)
		dealOf := func(rows [][]int) impl.Deal {
			return impl.Deal{Hands: rows[:players], Leader: d.Leader, Trump: d.Trump, Trick: rows[players], Won: rows[players+1], Points: rows[players+2], Left: d.Left}
		}
		for me := -1; me <= players; me++ {
			keepsRows(t, "SightOf", rowsOf(d), func(rows [][]int) [][]int {
				s, _ := impl.SightOf(dealOf(rows), me)
				return [][]int{s.Hand, s.Trick, s.Sizes, s.Won}
			})
			for b := -1; b <= players; b++ {
				keepsRows(t, "SwapHidden", rowsOf(d), func(rows [][]int) [][]int {
					next, _ := impl.SwapHidden(dealOf(rows), me, b, 0, 0)
					return rowsOf(next)
				})
			}
			keepsRows(t, "VoidIn", rowsOf(d), func(rows [][]int) [][]int { impl.VoidIn(dealOf(rows), me); return nil })
		}
		s := sightOf(t, d, 0)
		keepsRows(t, "SameSight", [][]int{s.Hand, s.Trick, s.Sizes, s.Won}, func(rows [][]int) [][]int {
			impl.SameSight(s, impl.Sight{Hand: rows[0], Trick: rows[1], Leader: s.Leader, Trump: s.Trump, Sizes: rows[2], Won: rows[3]})
			return nil
		})
	}
}
