package tests

import (
	"math"
	"slices"
	"testing"

	"loop.example/g03010/impl"
)

func clonePatience(p impl.Patience) impl.Patience {
	piles := []impl.Pile{}
	for _, pile := range p.Piles {
		piles = append(piles, clonePile(pile))
	}
	return impl.Patience{Piles: piles, Base: slices.Clone(p.Base), Stock: slices.Clone(p.Stock), Waste: slices.Clone(p.Waste)}
}

func equalPatience(a impl.Patience, b impl.Patience) bool {
	return slices.EqualFunc(a.Piles, b.Piles, equalPiles) && slices.Equal(a.Base, b.Base) && slices.Equal(a.Stock, b.Stock) && slices.Equal(a.Waste, b.Waste)
}

// allOf returns all cards of a game, sorted.
func allOf(p impl.Patience) []int {
	cards := slices.Concat(p.Stock, p.Waste)
	for suit, count := range p.Base {
		for step := range count {
			cards = append(cards, suit*13+(step+12)%13)
		}
	}
	for _, pile := range p.Piles {
		cards = append(cards, pile.Cards...)
	}
	slices.Sort(cards)
	return cards
}

func slowIsPatience(p impl.Patience) bool {
	if len(p.Piles) < 1 || len(p.Piles) > 7 || !slowIsBase(p.Base) {
		return false
	}
	for _, pile := range p.Piles {
		if !slowIsPile(pile) || len(pile.Cards) > 0 && pile.Hidden == len(pile.Cards) {
			return false
		}
	}
	return slices.Equal(allOf(p), wholeDeck())
}

func newPatience(t *testing.T, deck []int, piles int) impl.Patience {
	t.Helper()
	p, ok := impl.NewPatience(deck, piles)
	if !ok {
		t.Fatalf("NewPatience(%v, %d) is false", deck, piles)
	}
	return p
}

func TestNewPatience(t *testing.T) {
	random := numbers{113}
	for range 20 {
		deck := random.someHand(52)
		for piles := 1; piles <= 7; piles++ {
			p, ok := impl.NewPatience(deck, piles)
			want := impl.Patience{Base: []int{0, 0, 0, 0}}
			next := 0
			for size := 1; size <= piles; size++ {
				want.Piles = append(want.Piles, impl.Pile{Cards: deck[next : next+size], Hidden: size - 1})
				next += size
			}
			want.Stock = deck[next:]
			if !ok || !equalPatience(p, want) || !impl.IsPatience(p) || impl.IsWon(p) {
				t.Errorf("NewPatience(%v, %d) is %v, %t", deck, piles, p, ok)
			}
		}
	}
	for _, piles := range []int{-1, 0, 8, 9, math.MinInt, math.MaxInt} {
		if p, ok := impl.NewPatience(wholeDeck(), piles); ok || !equalPatience(p, impl.Patience{}) {
			t.Errorf("with %d piles the game is %v, %t", piles, p, ok)
		}
	}
	twice := append(wholeDeck()[1:], 1)
	beyond := append(wholeDeck()[1:], 52)
	for _, deck := range append(oddLists, nil, []int{}, wholeDeck()[1:], wholeDeck()[:51], append(wholeDeck(), 0), append(wholeDeck(), 52), twice, beyond) {
		for _, piles := range []int{0, 1, 7, 8} {
			if p, ok := impl.NewPatience(deck, piles); ok || !equalPatience(p, impl.Patience{}) {
				t.Errorf("with the deck %v the game is %v, %t", deck, p, ok)
			}
		}
	}
}

// wonPatience is a game that is over, with some empty piles.
func wonPatience(piles int) impl.Patience {
	return impl.Patience{Piles: make([]impl.Pile, piles), Base: []int{13, 13, 13, 13}}
}

// changedPatience returns games that are as p, but for one thing that makes them invalid.
func changedPatience(p impl.Patience) []impl.Patience {
	games := []impl.Patience{{}}
	change := func(f func(p *impl.Patience)) {
		changed := clonePatience(p)
		f(&changed)
		games = append(games, changed)
	}
	change(func(p *impl.Patience) { p.Piles = nil })
	change(func(p *impl.Patience) { p.Piles = append(p.Piles, make([]impl.Pile, 8-len(p.Piles))...) })
	change(func(p *impl.Patience) { p.Base = nil })
	change(func(p *impl.Patience) { p.Base = p.Base[1:] })
	change(func(p *impl.Patience) { p.Base = append(p.Base, 0) })
	for suit := range p.Base {
		for _, n := range []int{-1, 14, p.Base[suit] + 1, p.Base[suit] - 1, math.MinInt, math.MaxInt} {
			change(func(p *impl.Patience) { p.Base[suit] = n })
		}
	}
	if len(p.Stock) > 0 {
		change(func(p *impl.Patience) { p.Stock = p.Stock[1:] })
		change(func(p *impl.Patience) { p.Stock[0] = 52 })
		change(func(p *impl.Patience) { p.Stock[0] = -1 })
		change(func(p *impl.Patience) { p.Waste = append(p.Waste, p.Stock[0]) })
	}
	if len(p.Waste) > 0 {
		change(func(p *impl.Patience) { p.Waste = p.Waste[1:] })
		change(func(p *impl.Patience) { p.Waste[0] = math.MaxInt })
		change(func(p *impl.Patience) { p.Stock = append(p.Stock, p.Waste[0]) })
	}
	change(func(p *impl.Patience) { p.Stock = append(p.Stock, 52) })
	change(func(p *impl.Patience) { p.Waste = append(p.Waste, -1) })
	for i, pile := range p.Piles {
		for _, n := range []int{-1, len(pile.Cards) + 1, math.MinInt, math.MaxInt} {
			change(func(p *impl.Patience) { p.Piles[i].Hidden = n })
		}
		if len(pile.Cards) > 0 {
			change(func(p *impl.Patience) { p.Piles[i].Hidden = len(pile.Cards) })
			change(func(p *impl.Patience) { p.Piles[i].Cards[0] = 52 })
			change(func(p *impl.Patience) { p.Stock = append(p.Stock, pile.Cards[0]) })
			change(func(p *impl.Patience) { p.Piles[i] = impl.Pile{} })
		}
	}
	return games
}

func checkNoMove(t *testing.T, name string, p impl.Patience, got impl.Patience, ok bool) {
	t.Helper()
	if ok || !equalPatience(got, p) {
		t.Errorf("%s of %v is %v, %t", name, p, got, ok)
	}
}

// checkNoMoves checks that no move at all is possible.
func checkNoMoves(t *testing.T, p impl.Patience) {
	t.Helper()
	got, ok := impl.Turn(p)
	checkNoMove(t, "Turn", p, got, ok)
	for from := -2; from <= 7; from++ {
		got, ok := impl.MoveWaste(p, from)
		checkNoMove(t, "MoveWaste", p, got, ok)
		got, ok = impl.MoveUp(p, from)
		checkNoMove(t, "MoveUp", p, got, ok)
		for to := -1; to <= 7; to++ {
			for n := 0; n <= 3; n++ {
				got, ok = impl.MovePile(p, from, to, n)
				checkNoMove(t, "MovePile", p, got, ok)
			}
		}
	}
}

func TestIsPatience(t *testing.T) {
	random := numbers{127}
	p := newPatience(t, random.someHand(52), 4)
	for range 3 {
		for _, changed := range changedPatience(p) {
			if impl.IsPatience(changed) || slowIsPatience(changed) || impl.IsWon(changed) {
				t.Errorf("%v is a game", changed)
			}
			checkNoMoves(t, changed)
		}
		if !impl.IsPatience(p) {
			t.Errorf("%v is no game", p)
		}
		p, _ = impl.Turn(p)
	}
	for piles := 0; piles <= 9; piles++ {
		won := wonPatience(piles)
		want := piles >= 1 && piles <= 7
		if impl.IsPatience(won) != want || impl.IsWon(won) != want {
			t.Errorf("with %d empty piles the game is won: %t", piles, !want)
		}
		checkNoMoves(t, won)
	}
	for _, changed := range changedPatience(wonPatience(3)) {
		if impl.IsPatience(changed) || impl.IsWon(changed) {
			t.Errorf("%v is won", changed)
		}
	}
	last := impl.Patience{Piles: make([]impl.Pile, 1), Base: []int{13, 13, 13, 12}, Waste: hand("Ks")}
	if !impl.IsPatience(last) || impl.IsWon(last) {
		t.Errorf("%v is won", last)
	}
}

// The wrong piles of this game are wrong in their cards, not in their number.
func TestIsPatienceLooksAtThePiles(t *testing.T) {
	for _, c := range []struct {
		pile impl.Pile
		want bool
	}{
		{pileOf("9s8h", 0), true}, {pileOf("9s8h", 1), true}, {pileOf("9s8h", 2), false}, {pileOf("8h9s", 0), false}, {pileOf("8h9s", 1), true}, {pileOf("9s8c", 0), false}, {pileOf("9s", 0), true}, {pileOf("9s", 1), false}, {impl.Pile{}, true}, {impl.Pile{Hidden: 1}, false},
	} {
		p := impl.Patience{Piles: []impl.Pile{{}, c.pile}, Base: []int{0, 0, 0, 0}}
		for card := range 52 {
			if !slices.Contains(c.pile.Cards, card) {
				p.Stock = append(p.Stock, card)
			}
		}
		if got := impl.IsPatience(p); got != c.want {
			t.Errorf("with the pile %v it is a game: %t", c.pile, got)
		}
	}
}

func TestTurn(t *testing.T) {
	deck := wholeDeck()
	p := newPatience(t, deck, 2)
	for n := range 49 {
		next, ok := impl.Turn(p)
		want := clonePatience(p)
		want.Stock, want.Waste = deck[4+n:], deck[3:4+n]
		if !ok || !equalPatience(next, want) {
			t.Fatalf("turned %d times, the game is %v, %t", n+1, next, ok)
		}
		p = next
	}
	if len(p.Stock) != 0 || len(p.Waste) != 49 {
		t.Fatalf("the stock is not used up: %v", p)
	}
	again, ok := impl.Turn(p)
	if !ok || !equalPatience(again, newPatience(t, deck, 2)) {
		t.Errorf("with the stock used up, Turn is %v, %t", again, ok)
	}
}

func TestTurnWithNothingLeft(t *testing.T) {
	one := impl.Patience{Piles: []impl.Pile{pileOf("Ks", 0)}, Base: []int{13, 13, 13, 12}}
	got, ok := impl.Turn(one)
	checkNoMove(t, "Turn", one, got, ok)
	one = impl.Patience{Piles: make([]impl.Pile, 1), Base: []int{13, 13, 13, 12}, Waste: hand("Ks")}
	for n := range 4 {
		next, ok := impl.Turn(one)
		want := clonePatience(one)
		want.Stock, want.Waste = one.Waste, one.Stock
		if !ok || !equalPatience(next, want) {
			t.Errorf("turned %d times, the game is %v, %t", n+1, next, ok)
		}
		one = next
	}
	checkNoMoves(t, wonPatience(1))
}

// playedPatience is a game in which many kinds of moves are possible.
func playedPatience() impl.Patience {
	p := impl.Patience{
		Piles: []impl.Pile{pileOf("2c9s8h7c", 1), pileOf("Td", 0), pileOf("Ks9c", 1), {}, pileOf("2h", 0), pileOf("8dKdQc", 1)},
		Base:  []int{1, 0, 1, 0},
		Waste: hand("3h4s8s"),
	}
	taken := slices.Concat(hand("2c9s8h7cTdKs9c2h8dKdQcAcAh"), p.Waste)
	for c := range 52 {
		if !slices.Contains(taken, c) {
			p.Stock = append(p.Stock, c)
		}
	}
	return p
}

func TestMovePile(t *testing.T) {
	start := playedPatience()
	for _, c := range []struct {
		from, to, n      int
		wantFrom, wantTo impl.Pile
	}{
		{0, 1, 3, pileOf("2c", 0), pileOf("Td9s8h7c", 0)},
		{2, 1, 1, pileOf("Ks", 0), pileOf("Td9c", 0)},
		{0, 2, 2, pileOf("2c9s", 1), pileOf("Ks9c8h7c", 1)},
		{5, 3, 2, pileOf("8d", 0), pileOf("KdQc", 0)},
	} {
		want := clonePatience(start)
		want.Piles[c.from], want.Piles[c.to] = c.wantFrom, c.wantTo
		got, ok := impl.MovePile(start, c.from, c.to, c.n)
		if !ok || !equalPatience(got, want) || !impl.IsPatience(got) {
			t.Errorf("MovePile from %d to %d of %d cards is %v, %t", c.from, c.to, c.n, got, ok)
		}
	}
	for _, c := range [][3]int{
		{0, 1, 1}, {0, 1, 2}, {0, 1, 4}, {0, 1, 0}, {0, 1, -1}, {0, 1, math.MaxInt}, {0, 1, math.MinInt},
		{0, 0, 1}, {1, 1, 1}, {3, 3, 0}, {3, 1, 1}, {3, 1, 0}, {1, 3, 1}, {2, 3, 1}, {2, 3, 2}, {5, 3, 1}, {5, 3, 3}, {4, 3, 1},
		{-1, 0, 1}, {6, 0, 1}, {0, -1, 1}, {0, 6, 1}, {-1, -1, 1}, {6, 6, 1}, {math.MaxInt, 0, 1}, {0, math.MinInt, 1}, {2, -1, 1}, {2, 6, 1},
	} {
		got, ok := impl.MovePile(start, c[0], c[1], c[2])
		checkNoMove(t, "MovePile", start, got, ok)
	}
}

func TestMoveWaste(t *testing.T) {
	start := playedPatience()
	for to := -3; to <= 8; to++ {
		got, ok := impl.MoveWaste(start, to)
		checkNoMove(t, "MoveWaste", start, got, ok)
	}
	red := clonePatience(start)
	red.Waste[2], red.Stock[slices.Index(red.Stock, 31)] = 31, red.Waste[2]
	for _, to := range []int{-1, -2, 0, 1, 2, 3, 4, 5, 6, math.MinInt, math.MaxInt} {
		got, ok := impl.MoveWaste(red, to)
		checkNoMove(t, "MoveWaste", red, got, ok)
	}
	black := clonePatience(start)
	black.Waste[2], black.Stock[slices.Index(black.Stock, 12+13)] = 25, black.Waste[2]
	got, ok := impl.MoveWaste(black, -1)
	want := clonePatience(black)
	want.Base, want.Waste = []int{1, 1, 1, 0}, want.Waste[:2]
	if !ok || !equalPatience(got, want) {
		t.Errorf("MoveWaste to the foundation is %v, %t", got, ok)
	}
	king := clonePatience(start)
	king.Waste[2], king.Stock[slices.Index(king.Stock, 11)] = 11, king.Waste[2]
	got, ok = impl.MoveWaste(king, 3)
	want = clonePatience(king)
	want.Piles[3], want.Waste = pileOf("Kc", 0), want.Waste[:2]
	if !ok || !equalPatience(got, want) {
		t.Errorf("MoveWaste of a king is %v, %t", got, ok)
	}
	jack := clonePatience(start)
	jack.Waste[2], jack.Stock[slices.Index(jack.Stock, 35)] = 35, jack.Waste[2]
	got, ok = impl.MoveWaste(jack, 5)
	want = clonePatience(jack)
	want.Piles[5], want.Waste = pileOf("8dKdQcJh", 1), want.Waste[:2]
	if !ok || !equalPatience(got, want) {
		t.Errorf("MoveWaste of a jack is %v, %t", got, ok)
	}
	empty := clonePatience(start)
	empty.Stock, empty.Waste = slices.Concat(empty.Stock, empty.Waste), nil
	for to := -2; to <= 7; to++ {
		got, ok := impl.MoveWaste(empty, to)
		checkNoMove(t, "MoveWaste", empty, got, ok)
	}
}

func TestMoveUp(t *testing.T) {
	start := playedPatience()
	got, ok := impl.MoveUp(start, 4)
	want := clonePatience(start)
	want.Piles[4], want.Base = impl.Pile{}, []int{1, 0, 2, 0}
	if !ok || !equalPatience(got, want) {
		t.Errorf("MoveUp is %v, %t", got, ok)
	}
	for _, from := range []int{-2, -1, 0, 1, 2, 3, 5, 6, 7, math.MinInt, math.MaxInt} {
		got, ok := impl.MoveUp(start, from)
		checkNoMove(t, "MoveUp", start, got, ok)
	}
	opening := impl.Patience{Piles: []impl.Pile{pileOf("QsKs", 1)}, Base: []int{13, 13, 13, 11}}
	if got, ok := impl.MoveUp(opening, 0); ok || !equalPatience(got, opening) {
		t.Errorf("the king went up before the queen: %v, %t", got, ok)
	}
	opening.Piles[0] = pileOf("KsQs", 1)
	got, ok = impl.MoveUp(opening, 0)
	if !ok || !equalPatience(got, impl.Patience{Piles: []impl.Pile{pileOf("Ks", 0)}, Base: []int{13, 13, 13, 12}}) || impl.IsWon(got) {
		t.Errorf("MoveUp is %v, %t", got, ok)
	}
	got, ok = impl.MoveUp(got, 0)
	if !ok || !equalPatience(got, wonPatience(1)) || !impl.IsWon(got) {
		t.Errorf("the last MoveUp is %v, %t", got, ok)
	}
}

// slowMoved is what MovePile of one or more cards does.
func slowMoved(p impl.Patience, from int, to int, n int) (impl.Patience, bool) {
	next := clonePatience(p)
	if from == to || from < 0 || to < 0 || from >= len(p.Piles) || to >= len(p.Piles) {
		return next, false
	}
	source, target := &next.Piles[from], &next.Piles[to]
	left := len(source.Cards) - n
	if n < 1 || left < source.Hidden || !slowMayStack(*target, source.Cards[left]) {
		return next, false
	}
	target.Cards = append(target.Cards, source.Cards[left:]...)
	source.Cards = source.Cards[:left]
	source.Hidden = min(source.Hidden, max(0, left-1))
	return next, true
}

// someMove tries one of all moves, and returns what it gives.
func (n *numbers) someMove(t *testing.T, p impl.Patience) (impl.Patience, bool) {
	t.Helper()
	piles := len(p.Piles)
	switch n.below(8) {
	case 0, 1:
		return impl.Turn(p)
	case 2, 3:
		return impl.MoveWaste(p, -1)
	case 4:
		return impl.MoveWaste(p, n.below(piles+1))
	case 5:
		return impl.MoveUp(p, n.below(piles))
	}
	from, to, count := n.below(piles+1), n.below(piles+1), n.below(4)
	got, ok := impl.MovePile(p, from, to, count)
	if want, may := slowMoved(p, from, to, count); ok != may || !equalPatience(got, want) {
		t.Errorf("MovePile(%v, %d, %d, %d) is %v, %t", p, from, to, count, got, ok)
	}
	return got, ok
}

// Promise 18: every move keeps all cards and leaves a game; what is no move changes nothing.
func TestEveryMoveKeepsAllCards(t *testing.T) {
	random := numbers{131}
	most := 0
	for round := range 60 {
		p := newPatience(t, random.someHand(52), 1+round%7)
		for range 400 {
			next, ok := random.someMove(t, p)
			if !impl.IsPatience(next) || !slowIsPatience(next) || !slices.Equal(allOf(next), wholeDeck()) {
				t.Fatalf("a move made %v of %v", next, p)
			}
			if !ok && !equalPatience(next, p) {
				t.Errorf("what is no move made %v of %v", next, p)
			}
			if ok && equalPatience(next, p) {
				t.Errorf("a move changed nothing: %v", p)
			}
			p = next
		}
		most = max(most, sumOf(p.Base))
	}
	if most < 10 {
		t.Errorf("at most %d cards came to the foundation", most)
	}
}

// A game with one pile is always won: the stock is turned until the next card of a suit comes up.
func TestPatienceIsWon(t *testing.T) {
	random := numbers{137}
	for range 5 {
		p := newPatience(t, random.someHand(52), 1)
		for range 52 * 60 {
			if impl.IsWon(p) != (sumOf(p.Base) == 52) {
				t.Fatalf("%v is won: %t", p, impl.IsWon(p))
			}
			next, ok := impl.MoveUp(p, 0)
			if !ok {
				next, ok = impl.MoveWaste(p, -1)
			}
			if !ok {
				next, _ = impl.Turn(p)
			}
			p = next
		}
		if !impl.IsWon(p) || !equalPatience(p, wonPatience(1)) {
			t.Errorf("%v is not won", p)
		}
	}
}

// rowsOfPatience returns all lists of a game.
func rowsOfPatience(p impl.Patience) [][]int {
	rows := [][]int{p.Base, p.Stock, p.Waste}
	for _, pile := range p.Piles {
		rows = append(rows, pile.Cards)
	}
	return rows
}

func TestPatienceKeepsArguments(t *testing.T) {
	random := numbers{139}
	games := []impl.Patience{{}, playedPatience(), wonPatience(2)}
	games = append(games, changedPatience(playedPatience())[:20]...)
	p := newPatience(t, random.someHand(52), 3)
	for range 51 {
		games = append(games, p)
		p, _ = impl.Turn(p)
	}
	for _, p := range games {
		patienceOf := func(rows [][]int) impl.Patience {
			q := impl.Patience{Base: rows[0], Stock: rows[1], Waste: rows[2]}
			for i, cards := range rows[3:] {
				q.Piles = append(q.Piles, impl.Pile{Cards: cards, Hidden: p.Piles[i].Hidden})
			}
			return q
		}
		check := func(name string, move func(p impl.Patience) (impl.Patience, bool)) {
			t.Helper()
			keepsRows(t, name, rowsOfPatience(p), func(rows [][]int) [][]int {
				next, _ := move(patienceOf(rows))
				return rowsOfPatience(next)
			})
		}
		check("Turn", impl.Turn)
		for to := -1; to <= 5; to++ {
			check("MoveWaste", func(p impl.Patience) (impl.Patience, bool) { return impl.MoveWaste(p, to) })
			check("MoveUp", func(p impl.Patience) (impl.Patience, bool) { return impl.MoveUp(p, to) })
			for from := range 6 {
				check("MovePile", func(p impl.Patience) (impl.Patience, bool) { return impl.MovePile(p, from, to, 1+to%3) })
			}
		}
		keepsRows(t, "IsPatience and IsWon", rowsOfPatience(p), func(rows [][]int) [][]int {
			impl.IsPatience(patienceOf(rows))
			impl.IsWon(patienceOf(rows))
			return nil
		})
	}
	for piles := 0; piles <= 8; piles++ {
		keepsRows(t, "NewPatience", [][]int{wholeDeck()}, func(rows [][]int) [][]int {
			p, _ := impl.NewPatience(rows[0], piles)
			return rowsOfPatience(p)
		})
	}
}

// The list of the piles of a result is new memory, too.
func TestPatienceHasItsOwnPiles(t *testing.T) {
	start := playedPatience()
	for _, move := range []func(p impl.Patience) (impl.Patience, bool){
		impl.Turn,
		func(p impl.Patience) (impl.Patience, bool) { return impl.MovePile(p, 0, 1, 3) },
		func(p impl.Patience) (impl.Patience, bool) { return impl.MovePile(p, 0, 0, 1) },
		func(p impl.Patience) (impl.Patience, bool) { return impl.MoveUp(p, 4) },
		func(p impl.Patience) (impl.Patience, bool) { return impl.MoveUp(p, 9) },
		func(p impl.Patience) (impl.Patience, bool) { return impl.MoveWaste(p, 9) },
	} {
		p := clonePatience(start)
		next, _ := move(p)
		for i := range next.Piles {
			next.Piles[i] = impl.Pile{Cards: []int{99}, Hidden: 7}
		}
		if !equalPatience(p, start) {
			t.Errorf("the piles are shared: %v", p)
		}
	}
}
