package tests

import (
	"math"
	"slices"
	"testing"

	"loop.example/g03010/impl"
)

func TestAverageMoves(t *testing.T) {
	for _, c := range []struct {
		records [][]int
		want    int
	}{
		{nil, 0}, {[][]int{}, 0}, {[][]int{nil}, 0}, {[][]int{nil, {}}, 0}, {[][]int{{1, 2, 3}, {4}, nil}, 1}, {[][]int{{1, 2, 3}}, 3}, {[][]int{{1, 2, 3}, {4, 5}}, 2}, {[][]int{{1, 2, 3}, {4, 5, 6}}, 3}, {[][]int{{1}, nil}, 0}, {[][]int{{1}, {-1}, {99}, nil}, 0}, {[][]int{make([]int, 400), make([]int, 399)}, 399},
	} {
		if got := impl.AverageMoves(c.records); got != c.want {
			t.Errorf("AverageMoves(%v) is %d, not %d", c.records, got, c.want)
		}
	}
	random := numbers{523}
	for range 50 {
		records, moves := [][]int{}, 0
		for range 1 + random.below(9) {
			record := make([]int, random.below(20))
			records, moves = append(records, record), moves+len(record)
		}
		got := impl.AverageMoves(records)
		if got*len(records) > moves || (got+1)*len(records) <= moves {
			t.Errorf("of %d moves in %d records, the average is %d", moves, len(records), got)
		}
	}
}

func slowWins(players int, rounds [][]int, who int) int {
	if !slowIsSheet(players, rounds) || who < 0 || who >= players {
		return 0
	}
	wins := 0
	for _, points := range rounds {
		if points[who] > 0 {
			wins++
		}
	}
	return wins
}

func TestWinsOf(t *testing.T) {
	rounds := [][]int{{3, -3, 0}, {-5, 2, 3}, {1, 0, -1}}
	for who, want := range []int{2, 1, 1, 0, 0} {
		if got := impl.WinsOf(3, rounds, who); got != want {
			t.Errorf("%d won %d times, not %d", who, got, want)
		}
	}
	for _, who := range []int{-1, 3, 6, math.MinInt, math.MaxInt} {
		if got := impl.WinsOf(3, rounds, who); got != 0 {
			t.Errorf("%d won %d times", who, got)
		}
	}
	for _, players := range []int{-1, 0, 1, 2, 4, 7, math.MinInt, math.MaxInt} {
		for who := -1; who < 8; who++ {
			if got := impl.WinsOf(players, rounds, who); got != 0 {
				t.Errorf("of %d players, %d won %d times", players, who, got)
			}
			if got := impl.WinsOf(players, nil, who); got != 0 {
				t.Errorf("of %d players, %d won %d of no rounds", players, who, got)
			}
		}
	}
	for _, points := range noRounds {
		if got := impl.WinsOf(3, append(slices.Clone(rounds), points), 0); got != 0 && !slowIsRound(3, points) {
			t.Errorf("with the round %v, 0 won %d times", points, got)
		}
	}
	random := numbers{541}
	for _, size := range []int{0, 1, 7, 49, 50, 51} {
		for players := 2; players <= 6; players++ {
			sheet := random.someSheet(players, size)
			for who := range players + 1 {
				if got, want := impl.WinsOf(players, sheet, who), slowWins(players, sheet, who); got != want {
					t.Errorf("of %v, %d won %d times, not %d", sheet, who, got, want)
				}
			}
		}
	}
}

func slowOpenShare(p impl.Patience) int {
	if !slowIsPatience(p) {
		return 0
	}
	open := len(p.Waste) + sumOf(p.Base)
	for _, pile := range p.Piles {
		open += len(pile.Cards) - pile.Hidden
	}
	return 100 * open / 52
}

func TestOpenShare(t *testing.T) {
	p := newPatience(t, wholeDeck(), 3)
	turned, _ := impl.Turn(p)
	for _, c := range []struct {
		p    impl.Patience
		want int
	}{
		{p, 5}, {turned, 7}, {wonPatience(1), 100}, {wonPatience(7), 100}, {impl.Patience{}, 0}, {wonPatience(0), 0}, {wonPatience(8), 0}, {newPatience(t, wholeDeck(), 1), 1}, {newPatience(t, wholeDeck(), 7), 13},
		{impl.Patience{Piles: make([]impl.Pile, 1), Base: []int{13, 13, 13, 12}, Waste: hand("Ks")}, 100},
		{impl.Patience{Piles: make([]impl.Pile, 1), Base: []int{13, 13, 13, 12}, Stock: hand("Ks")}, 98},
		{impl.Patience{Piles: make([]impl.Pile, 1), Base: make([]int, 4), Stock: wholeDeck()}, 0},
		{impl.Patience{Piles: []impl.Pile{pileOf("KsQd", 0), pileOf("KdQs", 1)}, Base: []int{13, 11, 13, 11}}, 98},
	} {
		if got := impl.OpenShare(c.p); got != c.want || got != slowOpenShare(c.p) {
			t.Errorf("OpenShare(%v) is %d, not %d", c.p, got, c.want)
		}
	}
	for _, p := range append(changedPatience(turned), changedPatience(wonPatience(2))...) {
		if got := impl.OpenShare(p); got != 0 {
			t.Errorf("OpenShare(%v) is %d", p, got)
		}
	}
}

func TestOpenShareInPlay(t *testing.T) {
	random := numbers{547}
	most := 0
	for round := range 30 {
		p := newPatience(t, random.someHand(52), 1+round%7)
		for range 150 {
			p, _ = random.someMove(t, p)
			got := impl.OpenShare(p)
			if got != slowOpenShare(p) {
				t.Fatalf("OpenShare(%v) is %d, not %d", p, got, slowOpenShare(p))
			}
			most = max(most, got)
		}
	}
	if most < 80 {
		t.Errorf("no more than %d of a hundred cards lay open", most)
	}
}

func TestWildShare(t *testing.T) {
	for _, c := range []struct {
		wild []int
		want int
	}{
		{nil, 0}, {[]int{}, 0}, {[]int{rank + 6}, 7}, {[]int{red}, 50}, {[]int{suit}, 25}, {[]int{from}, 100}, {[]int{from, not}, 0}, {[]int{rank, suit, and}, 1}, {[]int{rank, suit, and, not}, 98}, {[]int{from + 9}, 30}, {chain(20), 50},
	} {
		r := easyRules()
		r.Wild = c.wild
		if got := impl.WildShare(r); got != c.want {
			t.Errorf("WildShare with %v is %d, not %d", c.wild, got, c.want)
		}
	}
	if got := impl.WildShare(easyRules()); got != 7 {
		t.Errorf("WildShare of the easy rules is %d", got)
	}
	for _, r := range append(changedRules(easyRules()), impl.Rules{}) {
		if got := impl.WildShare(r); got != 0 {
			t.Errorf("WildShare(%v) is %d", r, got)
		}
	}
}

func TestMeldCount(t *testing.T) {
	for _, c := range []struct {
		l    []int
		want int
	}{
		{nil, 0}, {[]int{}, 0}, {[]int{0, 1, 2, 3}, 3}, {[]int{0, 2}, 0}, {[]int{5, 5, 5}, 0}, {hand("2c2d2h2s"), 5}, {hand("2c2d2h"), 1}, {wholeDeck()[:12], 55}, {wholeDeck()[:13], 0}, {[]int{0, 1, 52}, 0}, {[]int{-1}, 0}, {hand("2c3c4c2d2h"), 2},
	} {
		if got := impl.MeldCount(c.l); got != c.want {
			t.Errorf("MeldCount(%v) is %d, not %d", c.l, got, c.want)
		}
	}
}

// Promise 37: counts show what there is: moves, rounds that were won, cards that lie open or are wild, and melds.
func TestCountsShowWhatThereIs(t *testing.T) {
	random := numbers{557}
	wild := 0
	for range 150 {
		r := random.someRules()
		matching := 0
		for c := range 52 {
			if is, _ := slowMatches(r.Wild, c); is && len(r.Wild) > 0 {
				matching++
			}
		}
		if got := impl.WildShare(r); got != 100*matching/52 {
			t.Errorf("WildShare(%v) is %d, but %d cards match", r, got, matching)
		}
		if matching > 0 {
			wild++
		}
		l := random.meldHand(random.below(11))
		if got, want := impl.MeldCount(l), len(slowMelds(l)); got != want {
			t.Errorf("MeldCount(%v) is %d, not %d", l, got, want)
		}
		sheet := random.someSheet(r.Players, random.below(8))
		wins, won := 0, 0
		for who := range r.Players {
			wins += impl.WinsOf(r.Players, sheet, who)
		}
		for _, points := range sheet {
			for _, n := range points {
				if n > 0 {
					won++
				}
			}
		}
		if wins != won {
			t.Errorf("of %v, %d are won, not %d", sheet, wins, won)
		}
	}
	if wild < 30 {
		t.Errorf("only %d rules have wild cards", wild)
	}
}

func TestMeasuresKeepArguments(t *testing.T) {
	keepsRows(t, "AverageMoves and WinsOf", [][]int{{3, -3, 0}, {-5, 2, 3}}, func(rows [][]int) [][]int {
		impl.AverageMoves(rows)
		impl.WinsOf(3, rows, 0)
		return nil
	})
	p := playedPatience()
	keepsRows(t, "OpenShare", rowsOfPatience(p), func(rows [][]int) [][]int {
		q := clonePatience(p)
		q.Base, q.Stock, q.Waste = rows[0], rows[1], rows[2]
		for i := range q.Piles {
			q.Piles[i].Cards = rows[3+i]
		}
		impl.OpenShare(q)
		return nil
	})
	keepsRows(t, "WildShare and MeldCount", [][]int{easyRules().Wild, hand("2c3c4c2d2h")}, func(rows [][]int) [][]int {
		r := easyRules()
		r.Wild = rows[0]
		impl.WildShare(r)
		impl.MeldCount(rows[1])
		return nil
	})
}
