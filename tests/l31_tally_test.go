package tests

import (
	"math"
	"slices"
	"testing"

	"loop.example/g03010/impl"
)

func isCardNumber(c int) bool {
	return c >= 0 && c < 52
}

// slowLongest tries every stretch of a record.
func slowLongest(record []int) int {
	longest := 0
	for from := range record {
		for to := from + 1; to <= len(record); to++ {
			if !slices.ContainsFunc(record[from:to], func(c int) bool { return !isCardNumber(c) }) {
				longest = max(longest, to-from)
			}
		}
	}
	return longest
}

func slowSkips(r impl.Rules, record []int) int {
	count := 0
	for _, c := range record {
		if skips, _ := slowMatches(r.Skip, c); skips && slowIsRules(r) && isCardNumber(c) {
			count++
		}
	}
	return count
}

func slowTurns(g impl.Game, record []int) []int {
	turns := make([]int, len(g.Hands))
	for _, move := range record {
		next, ok := slowReplayMove(g, move)
		if !ok {
			break
		}
		turns[g.Turn]++
		g = next
	}
	return turns
}

func checkTallies(t *testing.T, record []int) {
	t.Helper()
	takes, played := 0, []int{}
	for _, move := range record {
		if move == -1 {
			takes++
		} else if isCardNumber(move) {
			played = append(played, move)
		}
	}
	if got := impl.CountTakes(record); got != takes {
		t.Errorf("CountTakes(%v) is %d, not %d", record, got, takes)
	}
	if got := impl.CardsPlayed(record); !slices.Equal(got, played) {
		t.Errorf("CardsPlayed(%v) is %v, not %v", record, got, played)
	}
	if got, want := impl.LongestPlays(record), slowLongest(record); got != want {
		t.Errorf("LongestPlays(%v) is %d, not %d", record, got, want)
	}
	for _, r := range []impl.Rules{easyRules(), {}, {Players: 2, Each: 1, SameSuit: true, Skip: []int{red}, Take: 1, Limit: 1}, {Players: 2, Each: 1, SameSuit: true, Take: 1, Limit: 1}} {
		if got, want := impl.SkipsIn(r, record), slowSkips(r, record); got != want {
			t.Errorf("SkipsIn(%v, %v) is %d, not %d", r, record, got, want)
		}
	}
}

func TestTalliesOfARecord(t *testing.T) {
	for _, c := range []struct {
		record                []int
		takes, longest, skips int
		played                []int
	}{
		{nil, 0, 0, 0, nil},
		{[]int{}, 0, 0, 0, nil},
		{[]int{6, -1, 5, 12, -1, -1, 3}, 3, 2, 1, []int{6, 5, 12, 3}},
		{[]int{-1}, 1, 0, 0, nil},
		{[]int{51}, 0, 1, 1, []int{51}},
		{[]int{0, 0, 0}, 0, 3, 0, []int{0, 0, 0}},
		{[]int{12, 25, 38, 51}, 0, 4, 4, []int{12, 25, 38, 51}},
		{[]int{12, -1, 25, 38, -1, 51}, 2, 2, 4, []int{12, 25, 38, 51}},
		{[]int{1, 2, 3, -1, 1, 2}, 1, 3, 0, []int{1, 2, 3, 1, 2}},
		{[]int{1, 2, -1, 1, 2, 3}, 1, 3, 0, []int{1, 2, 1, 2, 3}},
		{[]int{-1, -1}, 2, 0, 0, nil},
	} {
		if impl.CountTakes(c.record) != c.takes || impl.LongestPlays(c.record) != c.longest || impl.SkipsIn(easyRules(), c.record) != c.skips || !slices.Equal(impl.CardsPlayed(c.record), c.played) {
			t.Errorf("%v shows %d, %d, %d, %v", c.record, impl.CountTakes(c.record), impl.LongestPlays(c.record), impl.SkipsIn(easyRules(), c.record), impl.CardsPlayed(c.record))
		}
		checkTallies(t, c.record)
	}
}

// What is no card and not -1 counts for nothing, and parts the cards before it from those behind it.
func TestMovesOfNoCard(t *testing.T) {
	for _, n := range append(noCards, 52, 64, 99, 204, -2, -3, 1<<32, 12+256, math.MinInt, math.MaxInt) {
		takes := 0
		if n == -1 {
			takes = 1
		}
		record := []int{12, 5, n, 38, 6, 7}
		if impl.CountTakes(record) != takes || impl.LongestPlays(record) != 3 || impl.SkipsIn(easyRules(), record) != 2 || !slices.Equal(impl.CardsPlayed(record), []int{12, 5, 38, 6, 7}) {
			t.Errorf("%v shows %d, %d, %d, %v", record, impl.CountTakes(record), impl.LongestPlays(record), impl.SkipsIn(easyRules(), record), impl.CardsPlayed(record))
		}
		if impl.CountTakes([]int{n}) != takes || impl.LongestPlays([]int{n}) != 0 || len(impl.CardsPlayed([]int{n})) != 0 || impl.SkipsIn(easyRules(), []int{n}) != 0 {
			t.Errorf("%d shows something", n)
		}
		checkTallies(t, record)
	}
}

func TestSkipsIn(t *testing.T) {
	for _, r := range append(changedRules(easyRules()), impl.Rules{}) {
		if got := impl.SkipsIn(r, wholeDeck()); got != 0 {
			t.Errorf("SkipsIn(%v) of all cards is %d", r, got)
		}
		if impl.CountTakes([]int{-1, 5}) != 1 || impl.LongestPlays([]int{-1, 5}) != 1 {
			t.Errorf("counts depend on rules")
		}
	}
	random := numbers{347}
	for range 100 {
		r := random.someRules()
		if got, want := impl.SkipsIn(r, wholeDeck()), slowSkips(r, wholeDeck()); got != want {
			t.Errorf("SkipsIn(%v) of all cards is %d, not %d", r, got, want)
		}
	}
}

func TestTurnsOf(t *testing.T) {
	g := newGame(t, easyRules(), wholeDeck())
	for _, c := range []struct{ record, want []int }{
		{nil, []int{0, 0, 0}}, {[]int{}, []int{0, 0, 0}}, {[]int{6, -1, 5, 12, -1}, []int{2, 1, 2}}, {[]int{6, 6, -1}, []int{1, 0, 0}}, {[]int{0, -1, -1}, []int{0, 0, 0}}, {[]int{-2}, []int{0, 0, 0}}, {[]int{-1, -1, -1, -1, 52, -1}, []int{2, 1, 1}},
	} {
		if got := impl.TurnsOf(g, c.record); !slices.Equal(got, c.want) {
			t.Errorf("TurnsOf %v is %v, not %v", c.record, got, c.want)
		}
	}
	for _, g := range changedGames(g) {
		if got := impl.TurnsOf(g, []int{-1, 6, 5}); !slices.Equal(got, make([]int, len(g.Hands))) {
			t.Errorf("TurnsOf(%v) is %v", g, got)
		}
	}
	over := newGame(t, oneEach(2, 3), wholeDeck())
	if got := impl.TurnsOf(over, []int{-1, -1, -1, -1, -1}); !slices.Equal(got, []int{2, 1}) {
		t.Errorf("behind the limit, TurnsOf is %v", got)
	}
	if got := impl.TurnsOf(impl.Game{Hands: make([][]int, 9)}, []int{-1}); !slices.Equal(got, make([]int, 9)) {
		t.Errorf("of nine hands without rules, TurnsOf is %v", got)
	}
}

// Promise 31: every move of a record is of one player, and is a card or taken cards.
func TestEveryMoveIsOfOnePlayer(t *testing.T) {
	random := numbers{349}
	moves, skips := 0, 0
	for range 100 {
		g := random.someGame(t)
		record := impl.RecordOut(g, []int{0, 1, 2, 0, 1, 2}[random.below(6):])
		turns := impl.TurnsOf(g, record)
		if sumOf(turns) != len(record) || !slices.Equal(turns, slowTurns(g, record)) {
			t.Errorf("TurnsOf(%v, %v) is %v, not %v", g, record, turns, slowTurns(g, record))
		}
		if impl.CountTakes(record)+len(impl.CardsPlayed(record)) != len(record) {
			t.Errorf("of %d moves, %d are cards and %d taken cards", len(record), len(impl.CardsPlayed(record)), impl.CountTakes(record))
		}
		if got := impl.SkipsIn(g.Rules, record); got != slowSkips(g.Rules, record) {
			t.Errorf("SkipsIn(%v, %v) is %d", g.Rules, record, got)
		} else {
			skips += got
		}
		if len(record) < 60 {
			checkTallies(t, record)
		}
		if len(record) > 0 {
			record[random.below(len(record))] = random.below(55) - 2
			_, made := impl.Replayed(g, record)
			if turns := impl.TurnsOf(g, record); sumOf(turns) != made || !slices.Equal(turns, slowTurns(g, record)) {
				t.Errorf("TurnsOf(%v, %v) is %v, but %d moves are made", g, record, turns, made)
			}
		}
		moves += len(record)
	}
	if moves < 1000 || skips < 30 {
		t.Errorf("%d moves and %d cards that skip are too few", moves, skips)
	}
}

func TestTalliesOfAnyNumbers(t *testing.T) {
	random := numbers{353}
	for range 300 {
		record := []int{}
		for range random.below(12) {
			record = append(record, random.below(58)-4)
		}
		checkTallies(t, record)
	}
}

func TestTalliesKeepArguments(t *testing.T) {
	g := newGame(t, easyRules(), wholeDeck())
	for _, record := range [][]int{nil, {6, -1, 5, 12, -1}, {-1, 52, 3, -2}, {1, 2, 3}} {
		keepsInts(t, "CardsPlayed", record, impl.CardsPlayed)
		keepsRows(t, "TurnsOf and others", append(rowsOfGame(g), record), func(rows [][]int) [][]int {
			last := len(rows) - 1
			other := gameOf(g, rows[:last])
			impl.CountTakes(rows[last])
			impl.LongestPlays(rows[last])
			impl.SkipsIn(other.Rules, rows[last])
			return [][]int{impl.TurnsOf(other, rows[last])}
		})
	}
}
