package tests

import (
	"math"
	"slices"
	"testing"

	"loop.example/g03010/impl"
)

func cloneGame(g impl.Game) impl.Game {
	g.Rules = cloneRules(g.Rules)
	g.Hands = cloneRows(g.Hands)
	g.Stock = slices.Clone(g.Stock)
	g.Heap = slices.Clone(g.Heap)
	return g
}

func sameGames(a impl.Game, b impl.Game) bool {
	return sameRules(a.Rules, b.Rules) && equalRows(a.Hands, b.Hands) && slices.Equal(a.Stock, b.Stock) && slices.Equal(a.Heap, b.Heap) && a.Turn == b.Turn && a.Moves == b.Moves && a.Passes == b.Passes
}

func isZeroGame(g impl.Game) bool {
	return sameGames(g, impl.Game{})
}

// cardsOfGame returns all cards of a game, sorted.
func cardsOfGame(g impl.Game) []int {
	return slices.Sorted(slices.Values(slices.Concat(slices.Concat(g.Hands...), g.Stock, g.Heap)))
}

func slowIsGame(g impl.Game) bool {
	return slowIsRules(g.Rules) && len(g.Hands) == g.Rules.Players && slices.Equal(cardsOfGame(g), wholeDeck()) && len(g.Heap) > 0 &&
		g.Turn >= 0 && g.Turn < g.Rules.Players && g.Moves >= 0 && g.Moves <= g.Rules.Limit && g.Passes >= 0 && g.Passes <= g.Moves
}

func slowWinner(g impl.Game) int {
	if slowIsGame(g) {
		for who, l := range g.Hands {
			if len(l) == 0 {
				return who
			}
		}
	}
	return -1
}

func slowIsEnded(g impl.Game) bool {
	return slowIsGame(g) && (slowWinner(g) >= 0 || g.Moves == g.Rules.Limit || g.Passes >= g.Rules.Players)
}

func slowPlayable(g impl.Game) []int {
	playable := []int{}
	if !slowIsGame(g) || slowIsEnded(g) {
		return playable
	}
	for c := range 52 {
		if slices.Contains(g.Hands[g.Turn], c) && slowFits(g.Rules, g.Heap[len(g.Heap)-1], c) {
			playable = append(playable, c)
		}
	}
	return playable
}

func slowPlayOn(g impl.Game, c int) (impl.Game, bool) {
	next := cloneGame(g)
	if !slices.Contains(slowPlayable(g), c) {
		return next, false
	}
	next.Hands[g.Turn] = slices.DeleteFunc(next.Hands[g.Turn], func(x int) bool { return x == c })
	next.Heap = append(next.Heap, c)
	next.Moves++
	next.Passes = 0
	next.Turn++
	if skips, _ := slowMatches(g.Rules.Skip, c); skips {
		next.Turn++
	}
	next.Turn %= g.Rules.Players
	return next, true
}

func slowTakeCards(g impl.Game) (impl.Game, bool) {
	next := cloneGame(g)
	if !slowIsGame(g) || slowIsEnded(g) {
		return next, false
	}
	taken := 0
	for taken < g.Rules.Take {
		if len(next.Stock) == 0 {
			last := len(next.Heap) - 1
			next.Stock, next.Heap = slices.Clone(next.Heap[:last]), slices.Clone(next.Heap[last:])
		}
		if len(next.Stock) == 0 {
			break
		}
		next.Hands[g.Turn] = append(next.Hands[g.Turn], next.Stock[0])
		next.Stock = next.Stock[1:]
		taken++
	}
	next.Moves++
	next.Passes++
	if taken > 0 {
		next.Passes = 0
	}
	next.Turn = (next.Turn + 1) % g.Rules.Players
	return next, true
}

func newGame(t *testing.T, r impl.Rules, deck []int) impl.Game {
	t.Helper()
	g, ok := impl.NewGame(r, deck)
	if !ok {
		t.Fatalf("NewGame(%v, %v) is false", r, deck)
	}
	return g
}

// checkGame checks all that can be asked about a game, and each move of it.
func checkGame(t *testing.T, g impl.Game) {
	t.Helper()
	if got, want := impl.IsGame(g), slowIsGame(g); got != want {
		t.Errorf("IsGame(%v) is %t", g, got)
	}
	if got, want := impl.Winner(g), slowWinner(g); got != want {
		t.Errorf("Winner(%v) is %d, not %d", g, got, want)
	}
	if got, want := impl.IsEnded(g), slowIsEnded(g); got != want {
		t.Errorf("IsEnded(%v) is %t", g, got)
	}
	if got, want := impl.Playable(g), slowPlayable(g); !slices.Equal(got, want) {
		t.Errorf("Playable(%v) is %v, not %v", g, got, want)
	}
	for c := -1; c <= 52; c++ {
		got, ok := impl.PlayOn(g, c)
		if want, may := slowPlayOn(g, c); ok != may || !sameGames(got, want) {
			t.Errorf("PlayOn(%v, %d) is %v, %t, not %v", g, c, got, ok, want)
		}
	}
	got, ok := impl.TakeCards(g)
	if want, may := slowTakeCards(g); ok != may || !sameGames(got, want) {
		t.Errorf("TakeCards(%v) is %v, %t, not %v", g, got, ok, want)
	}
}

func TestNewGame(t *testing.T) {
	random := numbers{223}
	for players := 2; players <= 6; players++ {
		for each := 1; each <= 8; each++ {
			r := random.someRules()
			r.Players, r.Each = players, each
			deck := random.someHand(52)
			want := impl.Game{Rules: r, Hands: make([][]int, players)}
			for i, c := range deck[:players*each] {
				want.Hands[i%players] = append(want.Hands[i%players], c)
			}
			want.Heap, want.Stock = deck[players*each:players*each+1], deck[players*each+1:]
			g, ok := impl.NewGame(r, deck)
			if !ok || !sameGames(g, want) {
				t.Errorf("NewGame(%v, %v) is %v, %t", r, deck, g, ok)
			}
			checkGame(t, g)
			if !impl.IsGame(g) || impl.IsEnded(g) || impl.Winner(g) != -1 {
				t.Errorf("%v is no game that begins", g)
			}
		}
	}
}

func TestNewGameInvalid(t *testing.T) {
	for _, r := range changedRules(easyRules()) {
		if g, ok := impl.NewGame(r, wholeDeck()); ok || !isZeroGame(g) {
			t.Errorf("by %v the game is %v, %t", r, g, ok)
		}
	}
	twice := append(wholeDeck()[1:], 1)
	beyond := append(wholeDeck()[1:], 52)
	for _, deck := range append(oddLists, nil, []int{}, wholeDeck()[1:], wholeDeck()[:51], append(wholeDeck(), 0), append(wholeDeck(), 52), twice, beyond) {
		for _, r := range []impl.Rules{easyRules(), {}} {
			if g, ok := impl.NewGame(r, deck); ok || !isZeroGame(g) {
				t.Errorf("with the deck %v the game is %v, %t", deck, g, ok)
			}
		}
	}
}

// changedGames returns games that are as g, but for one thing that makes them invalid.
func changedGames(g impl.Game) []impl.Game {
	games := []impl.Game{{}}
	change := func(f func(g *impl.Game)) {
		changed := cloneGame(g)
		f(&changed)
		games = append(games, changed)
	}
	for _, r := range changedRules(g.Rules)[:30] {
		change(func(g *impl.Game) { g.Rules = r })
	}
	change(func(g *impl.Game) { g.Rules.SameSuit, g.Rules.SameRank = false, false })
	change(func(g *impl.Game) { g.Rules.Wild = []int{99} })
	change(func(g *impl.Game) { g.Hands = nil })
	change(func(g *impl.Game) { g.Hands = append(g.Hands, nil) })
	change(func(g *impl.Game) { g.Stock, g.Hands = append(g.Stock, g.Hands[0]...), g.Hands[1:] })
	change(func(g *impl.Game) { g.Stock, g.Heap = slices.Concat(g.Stock, g.Heap), nil })
	change(func(g *impl.Game) { g.Heap = nil })
	change(func(g *impl.Game) { g.Heap = g.Heap[:len(g.Heap)-1] })
	change(func(g *impl.Game) { g.Heap = append(g.Heap, 52) })
	change(func(g *impl.Game) { g.Heap = append(g.Heap, -1) })
	change(func(g *impl.Game) { g.Heap = append(g.Heap, g.Heap[0]) })
	change(func(g *impl.Game) { g.Heap[0] = math.MaxInt })
	change(func(g *impl.Game) { g.Stock = append(g.Stock, g.Heap[0]) })
	if len(g.Stock) > 0 {
		change(func(g *impl.Game) { g.Stock = g.Stock[1:] })
		change(func(g *impl.Game) { g.Stock[0] = 52 })
		change(func(g *impl.Game) { g.Stock[0] = g.Heap[0] })
	}
	for i := range g.Hands {
		change(func(g *impl.Game) { g.Hands[i] = append(g.Hands[i], g.Heap[0]) })
		change(func(g *impl.Game) { g.Hands[i] = append(g.Hands[i], math.MinInt) })
		if len(g.Hands[i]) > 0 {
			change(func(g *impl.Game) { g.Hands[i] = g.Hands[i][1:] })
			change(func(g *impl.Game) { g.Hands[i][0] = g.Heap[0] })
		}
	}
	for _, n := range []int{math.MinInt, -1, g.Rules.Players, g.Rules.Players + 1, math.MaxInt} {
		change(func(g *impl.Game) { g.Turn = n })
	}
	for _, n := range []int{math.MinInt, -1, g.Rules.Limit + 1, math.MaxInt} {
		change(func(g *impl.Game) { g.Moves = n })
	}
	for _, n := range []int{math.MinInt, -1, g.Moves + 1, math.MaxInt} {
		change(func(g *impl.Game) { g.Passes = n })
	}
	return games
}

func TestIsGame(t *testing.T) {
	random := numbers{227}
	g := newGame(t, easyRules(), random.someHand(52))
	for range 3 {
		for _, changed := range changedGames(g) {
			if impl.IsGame(changed) || impl.IsEnded(changed) || impl.Winner(changed) != -1 || len(impl.Playable(changed)) != 0 {
				t.Errorf("%v is a game", changed)
			}
			checkGame(t, changed)
		}
		if !impl.IsGame(g) {
			t.Errorf("%v is no game", g)
		}
		g, _ = impl.TakeCards(g)
	}
}

func TestNumbersOfAGame(t *testing.T) {
	g := newGame(t, easyRules(), wholeDeck())
	for _, turn := range []int{-1, 0, 1, 2, 3} {
		for _, moves := range []int{-1, 0, 1, 2, 3, 4, 199, 200, 201} {
			for _, passes := range []int{-1, 0, 1, 2, 3, 4, 199, 200, 201} {
				other := cloneGame(g)
				other.Turn, other.Moves, other.Passes = turn, moves, passes
				checkGame(t, other)
			}
		}
	}
}

// The first player without cards wins, and then the game is over.
func TestWinner(t *testing.T) {
	for without := range 8 {
		for turn := range 3 {
			g := newGame(t, easyRules(), wholeDeck())
			g.Turn = turn
			want := -1
			for who := 2; who >= 0; who-- {
				if without>>who&1 == 1 {
					g.Stock = append(g.Stock, g.Hands[who]...)
					g.Hands[who] = nil
					want = who
				}
			}
			if got := impl.Winner(g); got != want || impl.IsEnded(g) != (want >= 0) {
				t.Errorf("the winner of %v is %d, not %d", g, got, want)
			}
			checkGame(t, g)
		}
	}
}

// smallGame is a game of two players with just these cards on the heap and in the hand of the first one. The second one has all other cards, or, if there is to be a stock, one of them.
func smallGame(r impl.Rules, heap string, first string, stock bool) impl.Game {
	g := impl.Game{Rules: r, Hands: [][]int{hand(first), nil}, Heap: hand(heap)}
	for c := range 52 {
		if !slices.Contains(g.Heap, c) && !slices.Contains(g.Hands[0], c) {
			if stock && len(g.Hands[1]) > 0 {
				g.Stock = append(g.Stock, c)
			} else {
				g.Hands[1] = append(g.Hands[1], c)
			}
		}
	}
	return g
}

func twoRules(take int) impl.Rules {
	return impl.Rules{Players: 2, Each: 1, SameSuit: true, SameRank: true, Skip: []int{impl.PtRank + 12}, Take: take, Limit: 9}
}

func TestTakeCards(t *testing.T) {
	for take := 1; take <= 4; take++ {
		for _, c := range []struct {
			heap               string
			wantHand, wantHeap []string
		}{
			{"2c", []string{"", "", "", ""}, []string{"2c", "2c", "2c", "2c"}},
			{"2c3c", []string{"2c", "2c", "2c", "2c"}, []string{"3c", "3c", "3c", "3c"}},
			{"2c4d3c", []string{"2c", "2c4d", "2c4d", "2c4d"}, []string{"3c", "3c", "3c", "3c"}},
			{"7h4d2c3c", []string{"7h", "7h4d", "7h4d2c", "7h4d2c"}, []string{"3c", "3c", "3c", "3c"}},
			{"7h4d2c9sJdTh", []string{"7h", "7h4d", "7h4d2c", "7h4d2c9s"}, []string{"Th", "Th", "Th", "Th"}},
		} {
			g := smallGame(twoRules(take), c.heap, "Ks", false)
			checkGame(t, g)
			got, ok := impl.TakeCards(g)
			taken := hand(c.wantHand[take-1])
			passes := 0
			if len(taken) == 0 {
				passes = 1
			}
			if !ok || !slices.Equal(got.Hands[0], append(hand("Ks"), taken...)) || !slices.Equal(got.Heap, hand(c.wantHeap[take-1])) || got.Passes != passes || got.Moves != 1 || got.Turn != 1 || len(got.Stock) != len(hand(c.heap))-1-len(taken) {
				t.Errorf("TakeCards(%v) is %v, %t", g, got, ok)
			}
		}
	}
}

// The stock is used up in the middle of a move: the rest comes from the heap.
func TestTakeCardsFromStockAndHeap(t *testing.T) {
	for inStock := range 5 {
		g := smallGame(twoRules(4), "7h4d2c9sJdThAs2s", "Ks", false)
		g.Stock, g.Hands[1] = g.Hands[1][:inStock], g.Hands[1][inStock:]
		got, ok := impl.TakeCards(g)
		row := slices.Concat(g.Stock, hand("7h4d2c9sJdThAs"))
		wantHeap, wantStock := hand("2s"), row[4:]
		if inStock == 4 {
			wantHeap, wantStock = g.Heap, nil
		}
		if !ok || !slices.Equal(got.Hands[0], append(hand("Ks"), row[:4]...)) || !slices.Equal(got.Heap, wantHeap) || !slices.Equal(got.Stock, wantStock) {
			t.Errorf("TakeCards(%v) is %v, %t", g, got, ok)
		}
		checkGame(t, g)
		checkGame(t, got)
	}
}

// When nobody can take a card any more, the game ends after as many passes as there are players.
func TestPassesEndTheGame(t *testing.T) {
	g := smallGame(twoRules(2), "2c", "Ks", false)
	for passes := 1; passes <= 2; passes++ {
		if impl.IsEnded(g) {
			t.Errorf("%v is at its end", g)
		}
		next, ok := impl.TakeCards(g)
		if !ok || next.Passes != passes || next.Moves != passes || next.Turn != passes%2 {
			t.Fatalf("TakeCards(%v) is %v, %t", g, next, ok)
		}
		g = next
	}
	if !impl.IsEnded(g) || impl.Winner(g) != -1 || len(impl.Playable(g)) != 0 {
		t.Errorf("%v is not at its end", g)
	}
	checkGame(t, g)
	g.Passes = 1
	g.Turn = 1
	next, ok := impl.PlayOn(g, 1)
	if !ok || next.Passes != 0 || next.Moves != 3 || impl.IsEnded(next) {
		t.Errorf("a card ends the passes: %v, %t", next, ok)
	}
}

func TestPlayOn(t *testing.T) {
	for _, c := range []struct {
		heap, hand, card string
		ok               bool
		turn             int
	}{
		{"2c", "KcKsAd", "Kc", true, 1},
		{"2c", "KcKsAd", "Ks", false, 0},
		{"2d", "KcKsAd", "Ad", true, 0},
		{"3c2s", "KcKsAd", "Ks", true, 1},
		{"2s3c", "KcKsAd", "Ks", false, 0},
		{"Ac", "KcKsAd", "Ad", true, 0},
		{"Ac", "KcKsAd", "Kc", true, 1},
		{"2c", "KcKsAd", "3c", false, 0},
		{"2c", "Kc", "Kc", true, 1},
	} {
		g := smallGame(twoRules(1), c.heap, c.hand, true)
		checkGame(t, g)
		card := hand(c.card)[0]
		next, ok := impl.PlayOn(g, card)
		want := cloneGame(g)
		if c.ok {
			want.Hands[0] = impl.Without(want.Hands[0], card)
			want.Heap = append(want.Heap, card)
			want.Moves = 1
			want.Turn = c.turn
		}
		if ok != c.ok || !sameGames(next, want) {
			t.Errorf("PlayOn(%v, %s) is %v, %t", g, c.card, next, ok)
		}
	}
	g := smallGame(twoRules(1), "2c", "KcKsAd", true)
	for _, c := range noCards {
		if next, ok := impl.PlayOn(g, c); ok || !sameGames(next, g) {
			t.Errorf("PlayOn of %d is %v, %t", c, next, ok)
		}
	}
}

// A card that skips passes over the next player, also around the end of the row.
func TestSkippedTurns(t *testing.T) {
	for players := 2; players <= 6; players++ {
		for turn := range players {
			g := newGame(t, impl.Rules{Players: players, Each: 2, SameSuit: true, Wild: []int{impl.PtFrom}, Skip: []int{impl.PtRed}, Take: 1, Limit: 5}, wholeDeck())
			g.Turn = turn
			for _, c := range impl.Playable(g) {
				next, _ := impl.PlayOn(g, c)
				want := (turn + 1) % players
				if slowIsRed(c) {
					want = (turn + 2) % players
				}
				if next.Turn != want {
					t.Errorf("of %d players, after %d played %d, %d is to move", players, turn, c, next.Turn)
				}
			}
			checkGame(t, g)
		}
	}
}

// someGame returns a game after some moves, at random.
func (n *numbers) someGame(t *testing.T) impl.Game {
	t.Helper()
	g := newGame(t, n.someRules(), n.someHand(52))
	for range n.below(80) {
		g = n.someGameMove(t, g)
	}
	return g
}

// someGameMove plays a card or takes cards; at the end of the game it returns it as it is.
func (n *numbers) someGameMove(t *testing.T, g impl.Game) impl.Game {
	t.Helper()
	playable := impl.Playable(g)
	if len(playable) == 0 || n.below(5) == 0 {
		next, _ := impl.TakeCards(g)
		return next
	}
	next, ok := impl.PlayOn(g, playable[n.below(len(playable))])
	if !ok {
		t.Fatalf("a card of Playable of %v cannot be played", g)
	}
	return next
}

// Promise 24: every move keeps each card of a game and leaves a valid game; what is no move changes nothing.
func TestEveryMoveKeepsAGameWhole(t *testing.T) {
	random := numbers{229}
	around, won, drawn := 0, 0, 0
	for range 60 {
		g := newGame(t, random.someRules(), random.someHand(52))
		if random.below(3) == 0 {
			g.Heap, g.Stock = slices.Concat(g.Stock, g.Heap), nil
		}
		for !impl.IsEnded(g) {
			if random.below(8) == 0 {
				checkGame(t, g)
			}
			next := random.someGameMove(t, g)
			if !impl.IsGame(next) || !slices.Equal(cardsOfGame(next), wholeDeck()) || next.Moves != g.Moves+1 {
				t.Fatalf("a move made %v of %v", next, g)
			}
			if len(next.Heap) < len(g.Heap) {
				around++
			}
			g = next
		}
		checkGame(t, g)
		if impl.Winner(g) >= 0 {
			won++
		} else {
			drawn++
		}
	}
	if around < 20 || won < 10 || drawn < 10 {
		t.Errorf("%d times a heap became the stock; %d games were won, and %d were not", around, won, drawn)
	}
}

// rowsOfGame returns all lists of a game.
func rowsOfGame(g impl.Game) [][]int {
	return append([][]int{g.Rules.Wild, g.Rules.Skip, g.Stock, g.Heap}, g.Hands...)
}

// gameOf returns g with these lists instead of its own.
func gameOf(g impl.Game, rows [][]int) impl.Game {
	g.Rules.Wild, g.Rules.Skip, g.Stock, g.Heap, g.Hands = rows[0], rows[1], rows[2], rows[3], rows[4:]
	return g
}

// keepsGame is keepsRows for a function of a game that returns one.
func keepsGame(t *testing.T, name string, g impl.Game, f func(g impl.Game) impl.Game) {
	t.Helper()
	keepsRows(t, name, rowsOfGame(g), func(rows [][]int) [][]int { return rowsOfGame(f(gameOf(g, rows))) })
}

func TestGamesKeepArguments(t *testing.T) {
	random := numbers{233}
	games := changedGames(newGame(t, easyRules(), wholeDeck()))
	for range 60 {
		games = append(games, random.someGame(t))
	}
	games = append(games, smallGame(twoRules(4), "2c", "Ks", false), smallGame(twoRules(4), "2c3c4c", "Ks", false))
	for _, g := range games {
		keepsGame(t, "TakeCards", g, func(g impl.Game) impl.Game { next, _ := impl.TakeCards(g); return next })
		for _, c := range append(impl.Playable(g), 0, 52) {
			keepsGame(t, "PlayOn", g, func(g impl.Game) impl.Game { next, _ := impl.PlayOn(g, c); return next })
		}
		keepsRows(t, "Playable and others", rowsOfGame(g), func(rows [][]int) [][]int {
			impl.IsGame(gameOf(g, rows))
			impl.IsEnded(gameOf(g, rows))
			impl.Winner(gameOf(g, rows))
			return [][]int{impl.Playable(gameOf(g, rows))}
		})
	}
	for _, r := range append(changedRules(easyRules()), easyRules(), impl.Rules{Players: 6, Each: 8, SameSuit: true, Take: 1, Limit: 1}) {
		keepsRows(t, "NewGame", [][]int{r.Wild, r.Skip, wholeDeck()}, func(rows [][]int) [][]int {
			q := r
			q.Wild, q.Skip = rows[0], rows[1]
			g, _ := impl.NewGame(q, rows[2])
			return rowsOfGame(g)
		})
	}
}
