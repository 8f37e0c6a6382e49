package tests

import (
	"math"
	"slices"
	"testing"

	"loop.example/g03010/impl"
)

func clonePeek(p impl.Peek) impl.Peek {
	p.Hand = slices.Clone(p.Hand)
	p.Sizes = slices.Clone(p.Sizes)
	return p
}

func equalPeeks(a impl.Peek, b impl.Peek) bool {
	return a.Me == b.Me && slices.Equal(a.Hand, b.Hand) && a.Top == b.Top && a.HeapSize == b.HeapSize && a.StockSize == b.StockSize && slices.Equal(a.Sizes, b.Sizes) && a.Turn == b.Turn && a.Moves == b.Moves
}

func isZeroPeek(p impl.Peek) bool {
	return equalPeeks(p, impl.Peek{})
}

func slowPeek(g impl.Game, me int) (impl.Peek, bool) {
	if !slowIsGame(g) || me < 0 || me >= g.Rules.Players {
		return impl.Peek{}, false
	}
	return impl.Peek{Me: me, Hand: slices.Sorted(slices.Values(g.Hands[me])), Top: g.Heap[len(g.Heap)-1], HeapSize: len(g.Heap), StockSize: len(g.Stock), Sizes: sizesOfRows(g.Hands), Turn: g.Turn, Moves: g.Moves}, true
}

// slowStirred gives the mixed cards back one by one.
func slowStirred(g impl.Game, me int, seed int) impl.Game {
	next := cloneGame(g)
	if _, ok := slowPeek(g, me); !ok {
		return next
	}
	hidden := []int{}
	for who, l := range g.Hands {
		if who != me {
			hidden = append(hidden, l...)
		}
	}
	mixed := slowShuffled(append(hidden, g.Stock...), seed)
	for who, l := range next.Hands {
		for i := range l {
			if who != me {
				l[i], mixed = mixed[0], mixed[1:]
			}
		}
	}
	for i := range next.Stock {
		next.Stock[i], mixed = mixed[0], mixed[1:]
	}
	return next
}

func checkPeek(t *testing.T, g impl.Game, me int) {
	t.Helper()
	got, ok := impl.PeekOf(g, me)
	if want, may := slowPeek(g, me); ok != may || !equalPeeks(got, want) {
		t.Errorf("PeekOf(%v, %d) is %v, %t, not %v", g, me, got, ok, want)
	}
}

func TestPeekOf(t *testing.T) {
	g := newGame(t, easyRules(), wholeDeck())
	p, ok := impl.PeekOf(g, 1)
	want := impl.Peek{Me: 1, Hand: []int{1, 4, 7, 10, 13}, Top: 15, HeapSize: 1, StockSize: 36, Sizes: []int{5, 5, 5}}
	if !ok || !equalPeeks(p, want) {
		t.Errorf("PeekOf is %v, %t", p, ok)
	}
	g, _ = impl.Replayed(g, []int{6, -1, 5, 12, -1})
	p, ok = impl.PeekOf(g, 1)
	want = impl.Peek{Me: 1, Hand: []int{1, 4, 7, 10, 13, 16}, Top: 12, HeapSize: 4, StockSize: 34, Sizes: []int{3, 6, 5}, Turn: 0, Moves: 5}
	if !ok || !equalPeeks(p, want) {
		t.Errorf("after five moves, PeekOf is %v, %t", p, ok)
	}
}

func TestPlayersWhoAreNone(t *testing.T) {
	random := numbers{317}
	for range 60 {
		g := random.someGame(t)
		players := g.Rules.Players
		for me := range players {
			checkPeek(t, g, me)
		}
		for _, me := range []int{-2, -1, players, players + 1, math.MinInt, math.MaxInt} {
			if p, ok := impl.PeekOf(g, me); ok || !isZeroPeek(p) {
				t.Errorf("PeekOf(%v, %d) is %v, %t", g, me, p, ok)
			}
			if got := impl.StirHidden(g, me, 9); !sameGames(got, g) {
				t.Errorf("StirHidden(%v, %d, 9) is %v", g, me, got)
			}
		}
	}
}

func TestPeekOfNoGame(t *testing.T) {
	for _, g := range changedGames(newGame(t, easyRules(), wholeDeck())) {
		for me := -1; me <= 3; me++ {
			if p, ok := impl.PeekOf(g, me); ok || !isZeroPeek(p) {
				t.Errorf("PeekOf(%v, %d) is %v, %t", g, me, p, ok)
			}
			if got := impl.StirHidden(g, me, 9); !sameGames(got, g) {
				t.Errorf("StirHidden(%v, %d, 9) is %v", g, me, got)
			}
		}
	}
}

func TestSamePeek(t *testing.T) {
	p := impl.Peek{Me: 1, Hand: []int{3, 51}, Top: 15, HeapSize: 2, StockSize: 5, Sizes: []int{2, 4, 1}, Turn: 2, Moves: 7}
	others := []impl.Peek{{}}
	change := func(f func(p *impl.Peek)) {
		other := clonePeek(p)
		f(&other)
		others = append(others, other)
	}
	for _, number := range []func(p *impl.Peek) *int{
		func(p *impl.Peek) *int { return &p.Me },
		func(p *impl.Peek) *int { return &p.Top },
		func(p *impl.Peek) *int { return &p.HeapSize },
		func(p *impl.Peek) *int { return &p.StockSize },
		func(p *impl.Peek) *int { return &p.Turn },
		func(p *impl.Peek) *int { return &p.Moves },
	} {
		change(func(p *impl.Peek) { *number(p) = 0 })
		change(func(p *impl.Peek) { *number(p)++ })
		change(func(p *impl.Peek) { *number(p) += 1 << 32 })
		change(func(p *impl.Peek) { *number(p) = -*number(p) })
	}
	for _, list := range []func(p *impl.Peek) *[]int{
		func(p *impl.Peek) *[]int { return &p.Hand },
		func(p *impl.Peek) *[]int { return &p.Sizes },
	} {
		change(func(p *impl.Peek) { *list(p) = nil })
		change(func(p *impl.Peek) { l := list(p); *l = (*l)[1:] })
		change(func(p *impl.Peek) { l := list(p); *l = append(*l, 0) })
		change(func(p *impl.Peek) { l := list(p); (*l)[0]++ })
		change(func(p *impl.Peek) { l := list(p); (*l)[len(*l)-1] += 1 << 32 })
		change(func(p *impl.Peek) { l := list(p); (*l)[0], (*l)[1] = (*l)[1], (*l)[0] })
	}
	change(func(p *impl.Peek) { p.Hand, p.Sizes = p.Sizes, p.Hand })
	for i, a := range append(others, p) {
		for k, b := range append(others, p) {
			if got := impl.SamePeek(a, b); got != equalPeeks(a, b) || got != (i == k) {
				t.Errorf("SamePeek(%v, %v) is %t", a, b, got)
			}
		}
	}
	if !impl.SamePeek(impl.Peek{Hand: []int{}, Sizes: nil}, impl.Peek{Hand: nil, Sizes: []int{}}) {
		t.Errorf("nil and empty lists are different")
	}
}

func TestStirHidden(t *testing.T) {
	g := newGame(t, easyRules(), wholeDeck())
	orders := map[int]bool{}
	for _, seed := range shuffleSeeds {
		for me := -1; me <= 3; me++ {
			got := impl.StirHidden(g, me, seed)
			if want := slowStirred(g, me, seed); !sameGames(got, want) {
				t.Errorf("StirHidden(%v, %d, %d) is %v, not %v", g, me, seed, got, want)
			}
		}
		orders[impl.StirHidden(g, 1, seed).Stock[0]] = true
	}
	if len(orders) < 5 {
		t.Errorf("the seeds make only %d orders", len(orders))
	}
}

// Without a stock, and with other hands that are empty, only what there is is mixed.
func TestStirHiddenWithoutStock(t *testing.T) {
	g := smallGame(twoRules(1), "2c", "KsQd", false)
	for me := range 2 {
		for _, seed := range shuffleSeeds {
			if got, want := impl.StirHidden(g, me, seed), slowStirred(g, me, seed); !sameGames(got, want) || len(got.Stock) != 0 {
				t.Errorf("StirHidden(%v, %d, %d) is %v, not %v", g, me, seed, got, want)
			}
		}
	}
	g = gameWith("", "2c3c", "")
	for seed := range 5 {
		if got := impl.StirHidden(g, 1, seed); !sameGames(got, g) {
			t.Errorf("StirHidden(%v, 1, %d) is %v", g, seed, got)
		}
	}
}

// Promise 30: hidden cards that are mixed, or changed one for one, change nothing of what one sees.
func TestMixedHiddenCardsChangeNothing(t *testing.T) {
	random := numbers{331}
	moved := 0
	for range 200 {
		g := random.someGame(t)
		me := random.below(g.Rules.Players)
		seed := random.below(2000000) - 1000000
		p, ok := impl.PeekOf(g, me)
		stirred := impl.StirHidden(g, me, seed)
		q, still := impl.PeekOf(stirred, me)
		if !ok || !still || !impl.SamePeek(p, q) || !equalPeeks(p, q) {
			t.Errorf("what %d sees changes from %v to %v", me, p, q)
		}
		if !sameGames(stirred, slowStirred(g, me, seed)) {
			t.Errorf("StirHidden(%v, %d, %d) is %v, not %v", g, me, seed, stirred, slowStirred(g, me, seed))
		}
		if !impl.IsGame(stirred) || !slices.Equal(stirred.Hands[me], g.Hands[me]) || !slices.Equal(stirred.Heap, g.Heap) || stirred.Passes != g.Passes || impl.Winner(stirred) != impl.Winner(g) {
			t.Errorf("%v is stirred to %v", g, stirred)
		}
		if !sameGames(stirred, g) {
			moved++
		}
		hidden := 0
		for c := range 52 {
			seen := slices.Contains(g.Hands[me], c) || c == g.Heap[len(g.Heap)-1]
			if impl.MayHold(p, c) == seen {
				t.Errorf("MayHold(%v, %d) is %t", p, c, !seen)
			}
			if !seen {
				hidden++
			}
		}
		if got := impl.HiddenCount(p); got != hidden {
			t.Errorf("HiddenCount(%v) is %d, not %d", p, got, hidden)
		}
	}
	if moved < 100 {
		t.Errorf("only %d games were mixed", moved)
	}
}

func TestMayHold(t *testing.T) {
	p := impl.Peek{Hand: []int{3, 51, 60, -1}, Top: 15}
	for c := range 52 {
		if got, want := impl.MayHold(p, c), c != 3 && c != 51 && c != 15; got != want {
			t.Errorf("MayHold of %d is %t", c, got)
		}
	}
	for _, c := range noCards {
		for _, p := range []impl.Peek{{}, {Top: -1}, p} {
			if impl.MayHold(p, c) {
				t.Errorf("MayHold(%v, %d) is true", p, c)
			}
		}
	}
	if impl.MayHold(impl.Peek{}, 0) || !impl.MayHold(impl.Peek{Top: -1}, 0) || !impl.MayHold(impl.Peek{Top: 52}, 51) || !impl.MayHold(impl.Peek{}, 51) {
		t.Errorf("a peek of nothing hides other cards")
	}
}

func TestHiddenCount(t *testing.T) {
	for _, c := range []struct {
		hand []int
		want int
	}{
		{nil, 51}, {[]int{}, 51}, {[]int{5}, 50}, {hand("AsKd2c"), 48}, {wholeDeck()[:51], 0}, {wholeDeck(), -1}, {[]int{5, 5, 99}, 48},
	} {
		if got := impl.HiddenCount(impl.Peek{Hand: c.hand, HeapSize: 7, StockSize: 3, Sizes: []int{1, 2}}); got != c.want {
			t.Errorf("besides %v, %d are hidden, not %d", c.hand, got, c.want)
		}
	}
}

func TestPeeksKeepArguments(t *testing.T) {
	random := numbers{337}
	games := changedGames(newGame(t, easyRules(), wholeDeck()))[:20]
	for range 40 {
		games = append(games, random.someGame(t))
	}
	for _, g := range games {
		for me := -1; me <= 2; me++ {
			keepsGame(t, "StirHidden", g, func(g impl.Game) impl.Game { return impl.StirHidden(g, me, 7) })
			keepsRows(t, "PeekOf", rowsOfGame(g), func(rows [][]int) [][]int {
				p, _ := impl.PeekOf(gameOf(g, rows), me)
				return [][]int{p.Hand, p.Sizes}
			})
		}
	}
	keepsRows(t, "SamePeek and others", [][]int{{5, 3}, {2, 3}}, func(rows [][]int) [][]int {
		p := impl.Peek{Hand: rows[0], Sizes: rows[1]}
		impl.SamePeek(p, p)
		impl.MayHold(p, 3)
		impl.HiddenCount(p)
		return nil
	})
}
