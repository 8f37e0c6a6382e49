package tests

import (
	"math"
	"slices"
	"testing"

	"loop.example/g03010/impl"
)

func slowLeftPoints(g impl.Game) []int {
	points := []int{}
	for _, l := range g.Hands {
		sum := 0
		for _, c := range l {
			if c >= 0 && c < 52 {
				sum += slowValue(c)
			}
		}
		points = append(points, sum)
	}
	return points
}

// slowOrder picks the first one of those with the fewest points again and again.
func slowOrder(points []int) []int {
	order := []int{}
	for len(order) < len(points) {
		next := -1
		for who := range points {
			if !slices.Contains(order, who) && (next < 0 || points[who] < points[next]) {
				next = who
			}
		}
		order = append(order, next)
	}
	return order
}

func slowSettled(g impl.Game) []int {
	if !slowIsGame(g) {
		return []int{}
	}
	points := slowLeftPoints(g)
	settled := make([]int, len(points))
	if winner := slowWinner(g); winner >= 0 {
		for who, n := range points {
			settled[who] = -n
		}
		settled[winner] = sumOf(points)
	}
	return settled
}

func checkResults(t *testing.T, g impl.Game) {
	t.Helper()
	points := slowLeftPoints(g)
	settled, order, loser := slowSettled(g), []int{}, -1
	if slowIsGame(g) {
		order = slowOrder(points)
		loser = slices.Index(points, slices.Max(points))
	}
	if got := impl.LeftPoints(g); !slices.Equal(got, points) {
		t.Errorf("LeftPoints(%v) is %v, not %v", g, got, points)
	}
	if got := impl.Settled(g); !slices.Equal(got, settled) {
		t.Errorf("Settled(%v) is %v, not %v", g, got, settled)
	}
	if got := impl.OrderOf(g); !slices.Equal(got, order) {
		t.Errorf("OrderOf(%v) is %v, not %v", g, got, order)
	}
	if got := impl.Loser(g); got != loser {
		t.Errorf("Loser(%v) is %d, not %d", g, got, loser)
	}
	if got, want := impl.IsDrawn(g), slowIsEnded(g) && slowWinner(g) < 0; got != want {
		t.Errorf("IsDrawn(%v) is %t", g, got)
	}
}

// gameWith is a game of as many players with these hands; the other cards are the heap.
func gameWith(hands ...string) impl.Game {
	g := impl.Game{Rules: oneEach(len(hands), 9)}
	held := []int{}
	for _, s := range hands {
		g.Hands = append(g.Hands, hand(s))
		held = append(held, hand(s)...)
	}
	for c := range 52 {
		if !slices.Contains(held, c) {
			g.Heap = append(g.Heap, c)
		}
	}
	return g
}

func TestLeftPoints(t *testing.T) {
	for _, c := range []struct {
		hands [][]int
		want  []int
	}{
		{nil, nil}, {[][]int{}, nil}, {[][]int{nil, {}}, []int{0, 0}}, {[][]int{hand("2c"), hand("AsAh"), hand("KdQdJdTd9d")}, []int{2, 2, 49}},
		{[][]int{{52, -1, math.MinInt, math.MaxInt}, {5, 5, 52}}, []int{0, 14}}, {[][]int{wholeDeck()}, []int{340}}, {make([][]int, 9), make([]int, 9)},
	} {
		g := impl.Game{Hands: c.hands}
		if got := impl.LeftPoints(g); !slices.Equal(got, c.want) {
			t.Errorf("LeftPoints of %v is %v, not %v", c.hands, got, c.want)
		}
		checkResults(t, g)
	}
}

func TestSettled(t *testing.T) {
	for _, c := range []struct {
		g              impl.Game
		settled, order []int
		loser          int
	}{
		{gameWith("", "2c3c", "Kd"), []int{15, -5, -10}, []int{0, 1, 2}, 2},
		{gameWith("2c3c", "", "Kd"), []int{-5, 15, -10}, []int{1, 0, 2}, 2},
		{gameWith("Kd", "2c3c", ""), []int{-10, -5, 15}, []int{2, 1, 0}, 0},
		{gameWith("2c3c", "", ""), []int{-5, 5, 0}, []int{1, 2, 0}, 0},
		{gameWith("", "", ""), []int{0, 0, 0}, []int{0, 1, 2}, 0},
		{gameWith("5c", "", "5d", "5h"), []int{-5, 15, -5, -5}, []int{1, 0, 2, 3}, 0},
		{gameWith("", "Ac"), []int{1, -1}, []int{0, 1}, 1},
		{gameWith("KdQcJs", "AsAhAdAc", "", "9c9d", "2c2d2h2s3c3d3h3s4c4d4h4s", "Th"), []int{-30, -4, 98, -18, -36, -10}, []int{2, 1, 5, 3, 0, 4}, 4},
		{gameWith("2c3c", "4d", "Kd"), []int{0, 0, 0}, []int{1, 0, 2}, 2},
	} {
		if got := impl.Settled(c.g); !slices.Equal(got, c.settled) {
			t.Errorf("Settled(%v) is %v, not %v", c.g, got, c.settled)
		}
		if got := impl.OrderOf(c.g); !slices.Equal(got, c.order) {
			t.Errorf("OrderOf(%v) is %v, not %v", c.g, got, c.order)
		}
		if got := impl.Loser(c.g); got != c.loser {
			t.Errorf("Loser(%v) is %d, not %d", c.g, got, c.loser)
		}
		checkResults(t, c.g)
	}
}

// Of players with the same points, the lesser one comes first, and is the loser.
func TestPointsThatAreTheSame(t *testing.T) {
	for _, c := range []struct {
		g     impl.Game
		order []int
		loser int
	}{
		{gameWith("Kc", "Kd", "Kh", "Ks"), []int{0, 1, 2, 3}, 0},
		{gameWith("Tc", "Jd", "Qh", "Ks"), []int{0, 1, 2, 3}, 0},
		{gameWith("2c", "Kd", "Kh", "2s"), []int{0, 3, 1, 2}, 1},
		{gameWith("Kc", "2d", "2h", "Ks"), []int{1, 2, 0, 3}, 0},
		{gameWith("2c", "3d", "2h", "3s", "2d", "3c"), []int{0, 2, 4, 1, 3, 5}, 1},
		{gameWith("Ks", "2c3c", "5d", "Ac4c", "AdAhAs2d"), []int{1, 2, 3, 4, 0}, 0},
		{gameWith("5d", "", "2c3c", ""), []int{1, 3, 0, 2}, 0},
	} {
		if got := impl.OrderOf(c.g); !slices.Equal(got, c.order) {
			t.Errorf("OrderOf(%v) is %v, not %v", c.g, got, c.order)
		}
		if got := impl.Loser(c.g); got != c.loser {
			t.Errorf("Loser(%v) is %d, not %d", c.g, got, c.loser)
		}
		checkResults(t, c.g)
	}
}

func TestResultsOfNoGame(t *testing.T) {
	for _, g := range changedGames(newGame(t, easyRules(), wholeDeck())) {
		if got := impl.Settled(g); len(got) != 0 {
			t.Errorf("Settled(%v) is %v", g, got)
		}
		if got := impl.OrderOf(g); len(got) != 0 {
			t.Errorf("OrderOf(%v) is %v", g, got)
		}
		if impl.Loser(g) != -1 || impl.IsDrawn(g) {
			t.Errorf("%v has a loser, or is drawn", g)
		}
		checkResults(t, g)
	}
}

func TestIsDrawn(t *testing.T) {
	g := newGame(t, oneEach(3, 4), wholeDeck())
	drawn := impl.PlayOut(g, nil)
	won := impl.PlayOut(g, []int{0, 0, 0})
	passed := smallGame(twoRules(1), "2c", "Ks", false)
	passed.Moves, passed.Passes = 2, 2
	wonAtLast := cloneGame(won)
	wonAtLast.Moves = 4
	for i, c := range []struct {
		g    impl.Game
		want bool
	}{
		{g, false}, {drawn, true}, {won, false}, {passed, true}, {wonAtLast, false}, {impl.Game{}, false},
	} {
		if got := impl.IsDrawn(c.g); got != c.want {
			t.Errorf("%d: IsDrawn(%v) is %t", i, c.g, got)
		}
		checkResults(t, c.g)
	}
	if got := impl.Settled(drawn); !slices.Equal(got, []int{0, 0, 0}) || !slices.Equal(impl.LeftPoints(drawn), []int{17, 10, 12}) {
		t.Errorf("a game that is drawn is settled by %v", got)
	}
}

// Promise 27: what the winner gets the others give, each what is left to them; without a winner nobody gives anything.
func TestWhatTheWinnerGetsTheOthersGive(t *testing.T) {
	random := numbers{271}
	won, drawn := 0, 0
	for range 200 {
		g := random.someGame(t)
		for _, g := range []impl.Game{g, impl.PlayOut(g, random.someKinds()), impl.PlayOut(g, []int{0, 1, 2, 0, 1, 2})} {
			checkResults(t, g)
			settled, points, winner := impl.Settled(g), impl.LeftPoints(g), impl.Winner(g)
			if sumOf(settled) != 0 || len(settled) != g.Rules.Players || !impl.IsRound(g.Rules.Players, settled) {
				t.Errorf("Settled(%v) is %v", g, settled)
			}
			for who, n := range settled {
				switch {
				case winner < 0 && n != 0:
					t.Errorf("%d gets %d without a winner", who, n)
				case winner >= 0 && who != winner && n != -points[who]:
					t.Errorf("%d gives %d, not %d", who, -n, points[who])
				}
			}
			order := impl.OrderOf(g)
			if !slices.Equal(slices.Sorted(slices.Values(order)), countUp(0, g.Rules.Players)) || winner >= 0 && order[0] != winner || points[impl.Loser(g)] != points[order[len(order)-1]] {
				t.Errorf("OrderOf(%v) is %v", g, order)
			}
			if winner >= 0 {
				won++
			} else if impl.IsDrawn(g) {
				drawn++
			}
		}
	}
	if won < 50 || drawn < 50 {
		t.Errorf("%d games were won, and %d were drawn", won, drawn)
	}
}

func TestResultsKeepArguments(t *testing.T) {
	random := numbers{277}
	games := changedGames(newGame(t, easyRules(), wholeDeck()))[:20]
	for range 30 {
		g := random.someGame(t)
		games = append(games, g, impl.PlayOut(g, []int{0, 1, 2, 0, 1, 2}))
	}
	for _, g := range games {
		keepsRows(t, "LeftPoints and others", rowsOfGame(g), func(rows [][]int) [][]int {
			impl.Loser(gameOf(g, rows))
			impl.IsDrawn(gameOf(g, rows))
			return [][]int{impl.LeftPoints(gameOf(g, rows)), impl.Settled(gameOf(g, rows)), impl.OrderOf(gameOf(g, rows))}
		})
	}
}
