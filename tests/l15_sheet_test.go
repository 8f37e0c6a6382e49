package tests

import (
	"math"
	"slices"
	"testing"

	"loop.example/g03010/impl"
)

func slowIsRound(players int, points []int) bool {
	if players < 2 || players > 6 || len(points) != players {
		return false
	}
	sum := 0
	for _, n := range points {
		if n < -1000 || n > 1000 {
			return false
		}
		sum += n
	}
	return sum == 0
}

func slowIsSheet(players int, rounds [][]int) bool {
	return players >= 2 && players <= 6 && len(rounds) <= 50 && !slices.ContainsFunc(rounds, func(points []int) bool { return !slowIsRound(players, points) })
}

// someRound returns points that add up to 0, none of them beyond the limits.
func (n *numbers) someRound(players int) []int {
	points := make([]int, players)
	for range 3 {
		a, b := n.below(players), n.below(players)
		most := min(1000-points[a], 1000+points[b])
		if a != b {
			moved := n.below(most + 1)
			points[a] += moved
			points[b] -= moved
		}
	}
	return points
}

func (n *numbers) someSheet(players int, size int) [][]int {
	rounds := [][]int{}
	for range size {
		rounds = append(rounds, n.someRound(players))
	}
	return rounds
}

// noRounds are lists that are no round, each for the number of players that it has, and nearly all of them for any number.
var noRounds = [][]int{
	nil, {0}, make([]int, 7), {1, 0}, {0, -1}, {1, 1}, {3, -2, 0}, {1001, -1001}, {-1001, 1001}, {1001, -1001, 0}, {1, 2, 3, 4, 5, -14},
	{math.MaxInt, -math.MaxInt}, {math.MinInt, math.MinInt}, {math.MaxInt, 1, math.MinInt}, {1 << 62, 1 << 62, 1 << 62, 1 << 62}, {math.MinInt, math.MaxInt, 1},
}

func TestIsRound(t *testing.T) {
	for _, points := range [][]int{
		{0, 0}, {1, -1}, {1000, -1000}, {-1000, 1000}, {0, 0, 0}, {3, -3, 0}, {-5, 2, 3}, {1000, -500, -500}, {1, 2, 3, -6}, {0, 0, 0, 0, 7, -7}, {1000, 1000, 1000, -1000, -1000, -1000}, {10, 0, 0, 0, -10},
	} {
		for players := -1; players <= 8; players++ {
			if got := impl.IsRound(players, points); got != (players == len(points)) {
				t.Errorf("IsRound(%d, %v) is %t", players, points, got)
			}
		}
	}
	for _, points := range noRounds {
		for _, players := range append(countUp(-1, 9), math.MinInt, math.MaxInt, len(points)) {
			if impl.IsRound(players, points) || impl.IsSheet(players, [][]int{points}) {
				t.Errorf("%v is a round of %d players", points, players)
			}
		}
	}
}

func TestIsRoundNearTheLimits(t *testing.T) {
	near := []int{-1001, -1000, -999, -1, 0, 1, 999, 1000, 1001}
	for _, a := range near {
		for _, b := range near {
			for _, c := range near {
				for _, points := range [][]int{{a, b}, {a, b, c}, {a, b, c, 0}, {a, b, c, -a - b - c}} {
					if got, want := impl.IsRound(len(points), points), slowIsRound(len(points), points); got != want {
						t.Errorf("IsRound(%d, %v) is %t", len(points), points, got)
					}
				}
			}
		}
	}
}

func TestIsSheet(t *testing.T) {
	random := numbers{83}
	for players := -1; players <= 8; players++ {
		for _, size := range []int{0, 1, 2, 49, 50, 51, 200} {
			rounds := [][]int{}
			if players >= 2 {
				rounds = random.someSheet(players, size)
			}
			want := players >= 2 && players <= 6 && size <= 50
			if got := impl.IsSheet(players, rounds); got != want {
				t.Errorf("%d rounds are a sheet of %d players: %t", size, players, got)
			}
			if want && size > 0 && (impl.IsSheet(players+1, rounds) || impl.IsSheet(players-1, rounds)) {
				t.Errorf("rounds of %d players are a sheet of another number", players)
			}
		}
	}
	for _, players := range []int{math.MinInt, -1, 0, 1, 7, math.MaxInt} {
		if impl.IsSheet(players, nil) || impl.IsSheet(players, [][]int{}) || impl.AheadIn(players, nil) != -1 || impl.TotalOf(players, nil, 0) != 0 {
			t.Errorf("%d players have a sheet", players)
		}
	}
}

// One round that is none spoils the sheet wherever it stands.
func TestSheetsWithARoundThatDoesNotAddUp(t *testing.T) {
	random := numbers{89}
	for players := 2; players <= 6; players++ {
		for at := range 5 {
			for bad := range players {
				for _, by := range []int{-1, 1, 2000, math.MaxInt} {
					rounds := random.someSheet(players, 5)
					rounds[at][bad] += by
					if impl.IsSheet(players, rounds) || impl.AheadIn(players, rounds) != -1 {
						t.Errorf("%v is a sheet", rounds)
					}
					for who := range players {
						if got := impl.TotalOf(players, rounds, who); got != 0 {
							t.Errorf("the total of %d in %v is %d", who, rounds, got)
						}
					}
					if got, ok := impl.AddRound(players, rounds, make([]int, players)); ok || !equalRows(got, rounds) {
						t.Errorf("a round was added to %v: %v, %t", rounds, got, ok)
					}
				}
			}
		}
	}
}

func TestTotalOf(t *testing.T) {
	rounds := [][]int{{3, -3, 0}, {-5, 2, 3}, {1000, -1000, 0}, {1000, 0, -1000}}
	for who, want := range map[int]int{0: 1998, 1: -1001, 2: -997, 3: 0, -1: 0, math.MinInt: 0, math.MaxInt: 0} {
		if got := impl.TotalOf(3, rounds, who); got != want {
			t.Errorf("the total of %d is %d, not %d", who, got, want)
		}
		if got := impl.TotalOf(3, nil, who); got != 0 {
			t.Errorf("without rounds the total of %d is %d", who, got)
		}
		if impl.TotalOf(2, rounds, who) != 0 || impl.TotalOf(4, rounds, who) != 0 {
			t.Errorf("for another number of players the total of %d is not 0", who)
		}
	}
}

func TestAheadIn(t *testing.T) {
	for _, c := range []struct {
		players int
		rounds  [][]int
		want    int
	}{
		{2, nil, 0},
		{6, [][]int{}, 0},
		{3, [][]int{{0, 0, 0}}, 0},
		{3, [][]int{{3, -3, 0}, {-5, 2, 3}}, 2},
		{3, [][]int{{-2, 1, 1}}, 1},
		{3, [][]int{{-1, 2, -1}, {0, -1, 1}, {1, -1, 0}}, 0},
		{4, [][]int{{-9, 3, 3, 3}}, 1},
		{2, [][]int{{-1, 1}}, 1},
		{2, [][]int{{-1, 1}, {1, -1}}, 0},
		{6, [][]int{{-1, 0, 0, 0, 0, 1}}, 5},
		{3, [][]int{{1, -1}}, -1},
		{2, [][]int{nil}, -1},
		{2, [][]int{{1, -1}, {1, 1}}, -1},
		{7, [][]int{make([]int, 7)}, -1},
	} {
		if got := impl.AheadIn(c.players, c.rounds); got != c.want {
			t.Errorf("AheadIn(%d, %v) is %d, not %d", c.players, c.rounds, got, c.want)
		}
	}
}

func TestFromTricks(t *testing.T) {
	for _, c := range []struct{ won, want []int }{
		{[]int{3, 1, 2}, []int{3, -3, 0}},
		{[]int{0, 200}, []int{-200, 200}},
		{[]int{0, 0}, []int{0, 0}},
		{[]int{200, 200}, []int{0, 0}},
		{[]int{7, 7, 7, 7}, []int{0, 0, 0, 0}},
		{[]int{200, 0, 0, 0, 0, 0}, []int{1000, -200, -200, -200, -200, -200}},
		{[]int{0, 200, 200, 200, 200, 200}, []int{-1000, 200, 200, 200, 200, 200}},
		{[]int{1, 0, 0, 0, 0}, []int{4, -1, -1, -1, -1}},
		{nil, nil},
		{[]int{5}, nil},
		{make([]int, 7), nil},
		{[]int{5, 201}, nil},
		{[]int{201, 5, 5}, nil},
		{[]int{5, -1}, nil},
		{[]int{-1, 5, 5}, nil},
		{[]int{math.MinInt, 1}, nil},
		{[]int{1, math.MaxInt}, nil},
	} {
		if got := impl.FromTricks(c.won); !slices.Equal(got, c.want) {
			t.Errorf("FromTricks(%v) is %v, not %v", c.won, got, c.want)
		}
	}
}

func TestAddRound(t *testing.T) {
	rounds := [][]int{{3, -3, 0}, {-5, 2, 3}}
	got, ok := impl.AddRound(3, rounds, []int{0, 7, -7})
	if !ok || !equalRows(got, [][]int{{3, -3, 0}, {-5, 2, 3}, {0, 7, -7}}) {
		t.Errorf("AddRound is %v, %t", got, ok)
	}
	first, ok := impl.AddRound(2, nil, []int{-1000, 1000})
	if !ok || !equalRows(first, [][]int{{-1000, 1000}}) {
		t.Errorf("the first round is %v, %t", first, ok)
	}
	for _, points := range append(noRounds, []int{1, -1}, []int{1, 0, -1, 0}) {
		if got, ok := impl.AddRound(3, rounds, points); ok || !equalRows(got, rounds) {
			t.Errorf("AddRound of %v is %v, %t", points, got, ok)
		}
	}
	for _, players := range []int{-1, 0, 1, 2, 4, 7, math.MaxInt} {
		if got, ok := impl.AddRound(players, rounds, []int{0, 0, 0}); ok || !equalRows(got, rounds) {
			t.Errorf("AddRound for %d players is %v, %t", players, got, ok)
		}
	}
}

func TestAddRoundUpToTheLast(t *testing.T) {
	random := numbers{97}
	rounds := [][]int{}
	for n := range 55 {
		points := random.someRound(4)
		next, ok := impl.AddRound(4, rounds, points)
		if ok != (n < 50) {
			t.Fatalf("a round was added behind %d: %t", n, ok)
		}
		if !ok {
			if !equalRows(next, rounds) {
				t.Errorf("behind the last round the sheet is %v", next)
			}
			continue
		}
		if !equalRows(next, append(cloneRows(rounds), points)) {
			t.Errorf("behind %d rounds the sheet is %v", n, next)
		}
		rounds = next
	}
}

// Promise 15: on every sheet, and for whatever is won, what one gets the others give.
func TestWhatOneWinsOthersLose(t *testing.T) {
	random := numbers{101}
	for range 400 {
		players := 2 + random.below(5)
		rounds := random.someSheet(players, random.below(51))
		if !impl.IsSheet(players, rounds) || !slowIsSheet(players, rounds) {
			t.Fatalf("%v is no sheet", rounds)
		}
		sum, ahead := 0, 0
		totals := make([]int, players)
		for who := range players {
			for _, points := range rounds {
				totals[who] += points[who]
			}
			if got := impl.TotalOf(players, rounds, who); got != totals[who] {
				t.Errorf("the total of %d in %v is %d, not %d", who, rounds, got, totals[who])
			}
			if totals[who] > totals[ahead] {
				ahead = who
			}
			sum += impl.TotalOf(players, rounds, who)
		}
		if sum != 0 || impl.AheadIn(players, rounds) != ahead {
			t.Errorf("of %v all totals are %d, and %d is ahead", rounds, sum, impl.AheadIn(players, rounds))
		}
		won := []int{}
		for range players {
			won = append(won, random.below(201))
		}
		points := impl.FromTricks(won)
		if !impl.IsRound(players, points) {
			t.Errorf("FromTricks(%v) is %v", won, points)
		}
		for i := range points {
			if points[i] != players*won[i]-sumOf(won) {
				t.Errorf("FromTricks(%v) is %v", won, points)
			}
		}
	}
}

func sumOf(l []int) int {
	sum := 0
	for _, n := range l {
		sum += n
	}
	return sum
}

func TestSheetsKeepArguments(t *testing.T) {
	for _, rounds := range [][][]int{{}, {{1, -1}}, {{3, -3, 0}, {-5, 2, 3}}, {{1}, {}, {2, 3}}, make([][]int, 50)} {
		for _, points := range [][]int{nil, {1, -1}, {0, 7, -7}, {9, 9}} {
			for players := 1; players <= 3; players++ {
				keepsRows(t, "AddRound", rounds, func(rounds [][]int) [][]int { next, _ := impl.AddRound(players, rounds, points); return next })
				keepsRows(t, "AddRound, the last row", append(cloneRows(rounds), points), func(rows [][]int) [][]int {
					next, _ := impl.AddRound(players, rows[:len(rounds)], rows[len(rounds)])
					return next
				})
				keepsRows(t, "IsSheet and others", rounds, func(rounds [][]int) [][]int {
					impl.IsSheet(players, rounds)
					impl.TotalOf(players, rounds, 1)
					impl.AheadIn(players, rounds)
					return nil
				})
			}
		}
	}
	for _, won := range [][]int{{}, {3, 1, 2}, {5}, {5, 201}} {
		keepsInts(t, "FromTricks", won, impl.FromTricks)
		keepsInts(t, "IsRound", won, func(won []int) []int { impl.IsRound(3, won); return nil })
	}
}
