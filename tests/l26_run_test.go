package tests

import (
	"math"
	"slices"
	"testing"

	"loop.example/g03010/impl"
)

func slowKind(kinds []int, who int) int {
	if who >= len(kinds) {
		return 3
	}
	return kinds[who]
}

func slowPlayOut(g impl.Game, kinds []int) impl.Game {
	last := cloneGame(g)
	for slowIsGame(last) && !slowIsEnded(last) {
		last, _ = slowAutoMove(last, slowKind(kinds, last.Turn))
	}
	return last
}

// someKinds returns kinds for more or fewer players than there are, and numbers that are none now and then.
func (n *numbers) someKinds() []int {
	kinds := []int{}
	for range n.below(8) {
		kinds = append(kinds, everyKind[min(n.below(14), n.below(14), len(everyKind)-1)])
	}
	return kinds
}

// oneEach are rules by which who plays a card has won.
func oneEach(players int, limit int) impl.Rules {
	return impl.Rules{Players: players, Each: 1, SameSuit: true, Take: 1, Limit: limit}
}

func TestPlayOut(t *testing.T) {
	g := newGame(t, oneEach(2, 3), wholeDeck())
	for _, c := range []struct {
		kinds               []int
		winner, moves, turn int
		held                []int
	}{
		{[]int{0, 0}, 0, 1, 1, []int{0, 1}},
		{[]int{1, 1}, 0, 1, 1, []int{0, 1}},
		{[]int{2}, 0, 1, 1, []int{0, 1}},
		{nil, -1, 3, 1, []int{3, 2}},
		{[]int{}, -1, 3, 1, []int{3, 2}},
		{[]int{3, 3}, -1, 3, 1, []int{3, 2}},
		{[]int{3}, -1, 3, 1, []int{3, 2}},
		{[]int{3, 1}, 1, 2, 0, []int{2, 0}},
		{[]int{9, 0}, 1, 2, 0, []int{2, 0}},
		{[]int{-1, 2}, 1, 2, 0, []int{2, 0}},
		{[]int{0, 0, 0, 0}, 0, 1, 1, []int{0, 1}},
		{[]int{math.MaxInt, math.MinInt, 0}, -1, 3, 1, []int{3, 2}},
	} {
		got := impl.PlayOut(g, c.kinds)
		if impl.Winner(got) != c.winner || got.Moves != c.moves || got.Turn != c.turn || !slices.Equal(impl.CardsHeld(got), c.held) || !impl.IsEnded(got) {
			t.Errorf("PlayOut with %v is %v", c.kinds, got)
		}
		if !sameGames(got, slowPlayOut(g, c.kinds)) {
			t.Errorf("PlayOut with %v is %v, not %v", c.kinds, got, slowPlayOut(g, c.kinds))
		}
	}
}

// A game that is at its end, or none, stays as it is.
func TestPlayOutOfOtherGames(t *testing.T) {
	games := changedGames(newGame(t, easyRules(), wholeDeck()))
	won, _ := impl.PlayOn(newGame(t, oneEach(2, 3), wholeDeck()), 0)
	full := newGame(t, easyRules(), wholeDeck())
	full.Moves = 200
	passed := smallGame(twoRules(1), "2c", "Ks", false)
	passed.Moves, passed.Passes = 2, 2
	for _, g := range append(games, won, full, passed) {
		for _, kinds := range [][]int{nil, {0, 0}, {0, 1, 2, 3}} {
			if got := impl.PlayOut(g, kinds); !sameGames(got, g) {
				t.Errorf("PlayOut(%v, %v) is %v", g, kinds, got)
			}
		}
		if got := impl.MovesLeft(g); got != 0 {
			t.Errorf("MovesLeft(%v) is %d", g, got)
		}
		if got, want := impl.CardsHeld(g), sizesOfRows(g.Hands); !slices.Equal(got, want) {
			t.Errorf("CardsHeld(%v) is %v", g, got)
		}
	}
	for _, g := range []impl.Game{won, full, passed} {
		if !impl.IsEnded(g) {
			t.Errorf("%v is not at its end", g)
		}
	}
}

func sizesOfRows(rows [][]int) []int {
	sizes := []int{}
	for _, l := range rows {
		sizes = append(sizes, len(l))
	}
	return sizes
}

// Promise 26: every game comes to its end, whatever the players are, within the moves that it has left.
func TestEveryGameComesToAnEnd(t *testing.T) {
	random := numbers{257}
	won, atLimit, passed := 0, 0, 0
	for range 250 {
		g := random.someGame(t)
		kinds := random.someKinds()
		last := impl.PlayOut(g, kinds)
		if !impl.IsEnded(last) || !impl.IsGame(last) || last.Moves > g.Rules.Limit || last.Moves < g.Moves || impl.MovesLeft(last) != 0 {
			t.Fatalf("PlayOut(%v, %v) is %v", g, kinds, last)
		}
		if !sameGames(last, slowPlayOut(g, kinds)) {
			t.Errorf("PlayOut(%v, %v) is %v, not %v", g, kinds, last, slowPlayOut(g, kinds))
		}
		switch {
		case impl.Winner(last) >= 0:
			won++
		case last.Moves == last.Rules.Limit:
			atLimit++
		default:
			passed++
		}
	}
	if won < 20 || atLimit < 20 || passed < 5 {
		t.Errorf("%d games were won, %d came to their limit, and in %d nobody could take cards", won, atLimit, passed)
	}
}

func TestMovesLeft(t *testing.T) {
	for _, limit := range []int{1, 2, 200, 400} {
		r := easyRules()
		r.Limit = limit
		g := newGame(t, r, wholeDeck())
		for moves := range limit {
			g.Moves = moves
			if got := impl.MovesLeft(g); got != limit-moves {
				t.Errorf("of %d moves, after %d there are %d left", limit, moves, got)
			}
		}
		for _, moves := range []int{-1, limit, limit + 1, math.MinInt, math.MaxInt} {
			g.Moves = moves
			if got := impl.MovesLeft(g); got != 0 {
				t.Errorf("of %d moves, after %d there are %d left", limit, moves, got)
			}
		}
	}
}

func TestCardsHeld(t *testing.T) {
	for _, c := range []struct {
		hands [][]int
		want  []int
	}{
		{nil, nil}, {[][]int{}, nil}, {[][]int{nil}, []int{0}}, {[][]int{{1, 2}, {}, {99, 99, -1}}, []int{2, 0, 3}}, {[][]int{wholeDeck(), wholeDeck()}, []int{52, 52}},
	} {
		if got := impl.CardsHeld(impl.Game{Hands: c.hands}); !slices.Equal(got, c.want) {
			t.Errorf("CardsHeld of %v is %v", c.hands, got)
		}
	}
}

func TestEqualGames(t *testing.T) {
	g := newGame(t, easyRules(), wholeDeck())
	g, _ = impl.TakeCards(g)
	games := append(changedGames(g), g, cloneGame(g), impl.Game{}, impl.Game{Hands: [][]int{}, Stock: []int{}, Heap: []int{}, Rules: impl.Rules{Wild: []int{}, Skip: []int{}}})
	change := func(f func(g *impl.Game)) {
		other := cloneGame(g)
		f(&other)
		games = append(games, other)
	}
	change(func(g *impl.Game) { g.Rules.Limit++ })
	change(func(g *impl.Game) { g.Rules.Skip = nil })
	change(func(g *impl.Game) { g.Hands[0], g.Hands[1] = g.Hands[1], g.Hands[0] })
	change(func(g *impl.Game) { g.Hands[0][0], g.Hands[0][1] = g.Hands[0][1], g.Hands[0][0] })
	change(func(g *impl.Game) { g.Hands[2] = nil })
	change(func(g *impl.Game) { g.Hands[2] = []int{} })
	change(func(g *impl.Game) { g.Stock, g.Heap = g.Heap, g.Stock })
	change(func(g *impl.Game) { g.Stock[0], g.Stock[1] = g.Stock[1], g.Stock[0] })
	change(func(g *impl.Game) { g.Heap = append(g.Heap, g.Heap[0]) })
	change(func(g *impl.Game) { g.Turn++ })
	change(func(g *impl.Game) { g.Moves++ })
	change(func(g *impl.Game) { g.Passes++ })
	for _, a := range games {
		for _, b := range games {
			if got, want := impl.EqualGames(a, b), sameGames(a, b); got != want {
				t.Errorf("EqualGames(%v, %v) is %t", a, b, got)
			}
		}
	}
}

func TestSomeWinner(t *testing.T) {
	random := numbers{263}
	nobodyWins, somebodyWins := 0, 0
	for range 30 {
		r := random.someRules()
		kinds := random.someKinds()
		seeds := []int{}
		for range random.below(5) {
			seeds = append(seeds, random.below(1000001))
		}
		seeds = append(seeds, shuffleSeeds[random.below(len(shuffleSeeds))])
		want := []int{}
		for _, seed := range seeds {
			winner := slowWinner(slowPlayOut(newGame(t, r, slowShuffled(wholeDeck(), seed)), kinds))
			want = append(want, winner)
			if winner < 0 {
				nobodyWins++
			} else {
				somebodyWins++
			}
		}
		if got := impl.SomeWinner(r, seeds, kinds); !slices.Equal(got, want) {
			t.Errorf("SomeWinner(%v, %v, %v) is %v, not %v", r, seeds, kinds, got, want)
		}
	}
	if nobodyWins < 10 || somebodyWins < 10 {
		t.Errorf("%d games were won, and %d were not", somebodyWins, nobodyWins)
	}
}

func TestSomeWinnerOfOtherSeeds(t *testing.T) {
	r := oneEach(2, 3)
	for _, count := range []int{0, 1, 19, 20, 21, 22, 1000} {
		want := count
		if count > 20 {
			want = 0
		}
		got := impl.SomeWinner(r, countUp(0, count), nil)
		if len(got) != want {
			t.Errorf("of %d seeds, the winners are %v", count, got)
		}
		for _, winner := range got {
			if winner != -1 {
				t.Errorf("where nobody plays, %d wins", winner)
			}
		}
	}
	if got := impl.SomeWinner(r, nil, []int{0, 0}); len(got) != 0 {
		t.Errorf("without seeds the winners are %v", got)
	}
	for _, r := range changedRules(easyRules()) {
		if got := impl.SomeWinner(r, []int{1, 2}, []int{0, 0, 0}); len(got) != 0 {
			t.Errorf("by %v the winners are %v", r, got)
		}
	}
}

func TestRunsKeepArguments(t *testing.T) {
	random := numbers{269}
	games := changedGames(newGame(t, easyRules(), wholeDeck()))[:20]
	for range 30 {
		games = append(games, random.someGame(t))
	}
	for _, g := range games {
		kinds := random.someKinds()
		keepsRows(t, "PlayOut", append(rowsOfGame(g), kinds), func(rows [][]int) [][]int {
			last := len(rows) - 1
			return rowsOfGame(impl.PlayOut(gameOf(g, rows[:last]), rows[last]))
		})
		keepsRows(t, "CardsHeld and others", rowsOfGame(g), func(rows [][]int) [][]int {
			impl.MovesLeft(gameOf(g, rows))
			impl.EqualGames(gameOf(g, rows), g)
			return [][]int{impl.CardsHeld(gameOf(g, rows))}
		})
	}
	r := easyRules()
	keepsRows(t, "SomeWinner", [][]int{r.Wild, r.Skip, {1, 2, 3}, {0, 1, 2}}, func(rows [][]int) [][]int {
		q := r
		q.Wild, q.Skip = rows[0], rows[1]
		return [][]int{impl.SomeWinner(q, rows[2], rows[3])}
	})
}
