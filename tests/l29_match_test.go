package tests

import (
	"math"
	"slices"
	"testing"

	"loop.example/g03010/impl"
)

// slowMatchRound asks for each player which place is the own one.
func slowMatchRound(t *testing.T, r impl.Rules, seed int, round int, kinds []int) []int {
	t.Helper()
	placeOf := func(player int) int {
		return ((player-round)%r.Players + r.Players) % r.Players
	}
	atPlaces := make([]int, r.Players)
	for player, kind := range kinds {
		atPlaces[placeOf(player)] = kind
	}
	g := newGame(t, r, slowShuffled(wholeDeck(), slowHash([]int{seed, round})))
	settled := slowSettled(slowPlayOut(g, atPlaces))
	points := []int{}
	for player := range r.Players {
		points = append(points, settled[placeOf(player)])
	}
	return points
}

// kindsFor returns a kind for each of the players.
func (n *numbers) kindsFor(players int) []int {
	kinds := []int{}
	for range players {
		kinds = append(kinds, everyKind[min(n.below(14), n.below(14), len(everyKind)-1)])
	}
	return kinds
}

func smallRules(players int) impl.Rules {
	return impl.Rules{Players: players, Each: 2, SameSuit: true, SameRank: true, Take: 1, Limit: 12}
}

func TestSeatsFor(t *testing.T) {
	for _, c := range []struct {
		players, round int
		want           []int
	}{
		{3, 0, []int{0, 1, 2}}, {3, 1, []int{1, 2, 0}}, {3, 4, []int{1, 2, 0}}, {2, 1000, []int{0, 1}}, {6, 1000, []int{4, 5, 0, 1, 2, 3}}, {2, 1, []int{1, 0}}, {6, 5, []int{5, 0, 1, 2, 3, 4}},
		{1, 0, nil}, {7, 0, nil}, {0, 0, nil}, {-3, 0, nil}, {3, -1, nil}, {3, 1001, nil}, {math.MaxInt, 0, nil}, {math.MinInt, 0, nil}, {3, math.MaxInt, nil}, {3, math.MinInt, nil}, {1, 1001, nil},
	} {
		if got := impl.SeatsFor(c.players, c.round); !slices.Equal(got, c.want) {
			t.Errorf("SeatsFor(%d, %d) is %v, not %v", c.players, c.round, got, c.want)
		}
	}
}

// Each player sits at one place, and after as many rounds as there are players has been at each.
func TestPlacesThatChange(t *testing.T) {
	for players := 2; players <= 6; players++ {
		for round := range 1001 {
			seats := impl.SeatsFor(players, round)
			if !slices.Equal(slices.Sorted(slices.Values(seats)), countUp(0, players)) {
				t.Fatalf("in the round %d there sit %v", round, seats)
			}
			for place, player := range seats {
				if player != (place+round)%players {
					t.Fatalf("in the round %d there sit %v", round, seats)
				}
			}
		}
	}
}

func TestMatchRound(t *testing.T) {
	random := numbers{311}
	won := 0
	for range 120 {
		r := random.someRules()
		kinds := random.kindsFor(r.Players)
		seed, round := random.below(2000)-1000, random.below(1001)
		got := impl.MatchRound(r, seed, round, kinds)
		if want := slowMatchRound(t, r, seed, round, kinds); !slices.Equal(got, want) {
			t.Errorf("MatchRound(%v, %d, %d, %v) is %v, not %v", r, seed, round, kinds, got, want)
		}
		if slices.Max(got) > 0 {
			won++
		}
	}
	if won < 20 {
		t.Errorf("only %d rounds were won", won)
	}
	for _, seed := range shuffleSeeds {
		for _, round := range []int{0, 1, 2, 999, 1000} {
			kinds := []int{0, 1, 3}
			if got, want := impl.MatchRound(easyRules(), seed, round, kinds), slowMatchRound(t, easyRules(), seed, round, kinds); !slices.Equal(got, want) {
				t.Errorf("with the seed %d, the round %d is %v, not %v", seed, round, got, want)
			}
		}
	}
}

// Only one player plays any cards, and wins wherever the own place is; the points are those of players, not of places.
func TestPointsArePlayersPoints(t *testing.T) {
	r := smallRules(3)
	r.Limit = 400
	for who := range 3 {
		kinds := []int{3, 3, 3}
		kinds[who] = 0
		won := 0
		for round := range 12 {
			points := impl.MatchRound(r, 5, round, kinds)
			for player, n := range points {
				if player == who && n < 0 || player != who && n > 0 {
					t.Errorf("in the round %d the points of %v are %v", round, kinds, points)
				}
			}
			if points[who] > 0 {
				won++
			}
		}
		if won < 3 {
			t.Errorf("%d won only %d rounds", who, won)
		}
	}
}

func TestNoMatchRound(t *testing.T) {
	kinds := []int{0, 1, 2}
	check := func(r impl.Rules, round int, kinds []int) {
		t.Helper()
		if got := impl.MatchRound(r, 5, round, kinds); len(got) != 0 {
			t.Errorf("MatchRound(%v, 5, %d, %v) is %v", r, round, kinds, got)
		}
	}
	for _, r := range append(changedRules(easyRules()), impl.Rules{}) {
		check(r, 0, kinds)
		check(r, 0, make([]int, max(0, min(r.Players, 9))))
	}
	for _, round := range []int{-1, 1001, math.MinInt, math.MaxInt} {
		check(easyRules(), round, kinds)
	}
	for _, kinds := range [][]int{nil, {}, {0}, {0, 1}, {0, 1, 2, 3}} {
		check(easyRules(), 0, kinds)
	}
	check(impl.Rules{}, -1, nil)
	if got := impl.MatchRound(easyRules(), 5, 0, kinds); len(got) != 3 {
		t.Errorf("the round is %v", got)
	}
}

// Promise 29: every round of a match adds up to nothing, and the rounds are those of MatchRound.
func TestRoundsOfAMatchAddUpToNothing(t *testing.T) {
	random := numbers{313}
	played := 0
	for range 50 {
		r := random.someRules()
		r.Limit = 1 + r.Limit%60
		kinds := random.kindsFor(r.Players)
		seed, rounds := random.below(100), 1+random.below(6)
		sheet := impl.MatchSheet(r, seed, rounds, kinds)
		if len(sheet) != rounds || !slowIsSheet(r.Players, sheet) {
			t.Fatalf("MatchSheet(%v, %d, %d, %v) is %v", r, seed, rounds, kinds, sheet)
		}
		for round, points := range sheet {
			if sumOf(points) != 0 || !slices.Equal(points, slowMatchRound(t, r, seed, round, kinds)) {
				t.Errorf("the round %d is %v", round, points)
			}
			if slices.Max(points) > 0 {
				played++
			}
		}
		totals := make([]int, r.Players)
		for _, points := range sheet {
			for who, n := range points {
				totals[who] += n
			}
		}
		if got, want := impl.MatchWinner(r, seed, rounds, kinds), slices.Index(totals, slices.Max(totals)); got != want {
			t.Errorf("of %v, %d has won, not %d", totals, got, want)
		}
	}
	if played < 20 {
		t.Errorf("only %d rounds were won", played)
	}
}

func TestMatchSheetRange(t *testing.T) {
	r, kinds := smallRules(2), []int{0, 1}
	for _, rounds := range []int{0, 1, 19, 20, 21, 22, 1000, 1001, -1, -20, math.MinInt, math.MaxInt} {
		want := rounds
		if rounds < 0 || rounds > 20 {
			want = 0
		}
		if got := impl.MatchSheet(r, 5, rounds, kinds); len(got) != want {
			t.Errorf("of %d rounds the sheet has %d", rounds, len(got))
		}
		if got := impl.MatchWinner(r, 5, rounds, kinds); (got < 0) != (want == 0) || got < -1 || got > 1 {
			t.Errorf("after %d rounds, %d has won", rounds, got)
		}
	}
}

func TestNoMatch(t *testing.T) {
	check := func(r impl.Rules, kinds []int) {
		t.Helper()
		for _, rounds := range []int{0, 1, 3, 20} {
			if got := impl.MatchSheet(r, 5, rounds, kinds); len(got) != 0 {
				t.Errorf("MatchSheet(%v, 5, %d, %v) is %v", r, rounds, kinds, got)
			}
			if got := impl.MatchWinner(r, 5, rounds, kinds); got != -1 {
				t.Errorf("MatchWinner(%v, 5, %d, %v) is %d", r, rounds, kinds, got)
			}
		}
	}
	for _, r := range append(changedRules(easyRules()), impl.Rules{}) {
		check(r, []int{0, 1, 2})
		check(r, make([]int, max(0, min(r.Players, 9))))
	}
	for _, kinds := range [][]int{nil, {}, {0}, {0, 1}, {0, 1, 2, 3}} {
		check(easyRules(), kinds)
	}
}

// If nobody wins a round, all have the same, and the first player is ahead.
func TestMatchWithoutPoints(t *testing.T) {
	for players := 2; players <= 6; players++ {
		kinds := slices.Repeat([]int{3}, players)
		sheet := impl.MatchSheet(smallRules(players), 5, 4, kinds)
		if len(sheet) != 4 || sumOf(slices.Concat(sheet...)) != 0 || slices.Max(slices.Concat(sheet...)) != 0 {
			t.Errorf("the sheet is %v", sheet)
		}
		if got := impl.MatchWinner(smallRules(players), 5, 4, kinds); got != 0 {
			t.Errorf("%d has won without points", got)
		}
	}
}

func TestRotateKinds(t *testing.T) {
	l := []int{4, 5, 6}
	for _, c := range []struct {
		kinds []int
		n     int
		want  []int
	}{
		{l, 0, l}, {l, 1, []int{5, 6, 4}}, {l, 2, []int{6, 4, 5}}, {l, 3, l}, {l, 4, []int{5, 6, 4}}, {l, 3000001, []int{5, 6, 4}}, {l, math.MaxInt, []int{5, 6, 4}},
		{[]int{9}, 0, []int{9}}, {[]int{9}, 7, []int{9}}, {[]int{-1, math.MinInt}, 1, []int{math.MinInt, -1}},
		{nil, 0, nil}, {nil, 1, nil}, {[]int{}, 5, nil}, {nil, -1, nil}, {l, -1, nil}, {l, -3, nil}, {l, math.MinInt, nil}, {[]int{4}, -1, nil},
	} {
		if got := impl.RotateKinds(c.kinds, c.n); !slices.Equal(got, c.want) {
			t.Errorf("RotateKinds(%v, %d) is %v, not %v", c.kinds, c.n, got, c.want)
		}
	}
	for size := 1; size < 10; size++ {
		kinds := countUp(0, size)
		for n := range 40 {
			for i, kind := range impl.RotateKinds(kinds, n) {
				if kind != (i+n)%size {
					t.Errorf("RotateKinds(%v, %d) has %d at %d", kinds, n, kind, i)
				}
			}
		}
	}
}

func TestMatchesKeepArguments(t *testing.T) {
	for _, l := range [][]int{nil, {}, {4}, {4, 5, 6}} {
		for _, n := range []int{-1, 0, 1, 3} {
			keepsInts(t, "RotateKinds", l, func(l []int) []int { return impl.RotateKinds(l, n) })
		}
	}
	for _, r := range []impl.Rules{easyRules(), {Players: 3, Wild: []int{99}}} {
		for _, kinds := range [][]int{nil, {0, 1}, {0, 1, 2}} {
			keepsRows(t, "MatchSheet and others", [][]int{r.Wild, r.Skip, kinds}, func(rows [][]int) [][]int {
				q := r
				q.Wild, q.Skip = rows[0], rows[1]
				impl.MatchWinner(q, 3, 3, rows[2])
				return append(impl.MatchSheet(q, 3, 3, rows[2]), impl.MatchRound(q, 3, 1, rows[2]), impl.SeatsFor(r.Players, 7))
			})
		}
	}
}
