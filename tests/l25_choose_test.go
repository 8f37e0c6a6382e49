package tests

import (
	"math"
	"slices"
	"testing"

	"loop.example/g03010/impl"
)

// everyKind has the kinds of players, and numbers that are none.
var everyKind = []int{0, 1, 2, 3, 4, 9, -1, -2, math.MinInt, math.MaxInt}

func slowChoice(g impl.Game, kind int) int {
	playable := slowPlayable(g)
	if len(playable) == 0 {
		return -1
	}
	switch kind {
	case 0:
		return playable[0]
	case 1:
		return playable[len(playable)-1]
	case 2:
		best, most := -1, 0
		for _, c := range playable {
			count := 0
			for _, x := range g.Hands[g.Turn] {
				if x/13 == c/13 {
					count++
				}
			}
			if count > most {
				best, most = c, count
			}
		}
		return best
	}
	return -1
}

func slowAutoMove(g impl.Game, kind int) (impl.Game, bool) {
	if c := slowChoice(g, kind); c >= 0 {
		return slowPlayOn(g, c)
	}
	return slowTakeCards(g)
}

func slowBestFor(g impl.Game) int {
	if !slowIsGame(g) || slowIsEnded(g) {
		return -1
	}
	best, fewest := -1, 100
	for kind := range 3 {
		next, _ := slowAutoMove(g, kind)
		if count := len(slowPlayable(next)); count < fewest {
			best, fewest = kind, count
		}
	}
	return best
}

func checkChoices(t *testing.T, g impl.Game) {
	t.Helper()
	for _, kind := range everyKind {
		if got, want := impl.ChoiceOf(g, kind), slowChoice(g, kind); got != want {
			t.Errorf("ChoiceOf(%v, %d) is %d, not %d", g, kind, got, want)
		}
		got, ok := impl.AutoMove(g, kind)
		if want, may := slowAutoMove(g, kind); ok != may || !sameGames(got, want) {
			t.Errorf("AutoMove(%v, %d) is %v, %t, not %v", g, kind, got, ok, want)
		}
	}
	if got, want := impl.BestFor(g), slowBestFor(g); got != want {
		t.Errorf("BestFor(%v) is %d, not %d", g, got, want)
	}
}

func TestKindsOfPlayers(t *testing.T) {
	if !slices.Equal([]int{impl.BtLeast, impl.BtMost, impl.BtSuit, impl.BtTake}, []int{0, 1, 2, 3}) {
		t.Errorf("other kinds")
	}
}

func TestChoiceOf(t *testing.T) {
	for _, c := range []struct {
		heap, hand  string
		least, most string
		suit        string
	}{
		{"2c", "3c4cKcKdQd", "3c", "Kc", "3c"},
		{"2c", "KcKd2dQd", "Kc", "2d", "2d"},
		{"2c", "KcKd2d", "Kc", "2d", "2d"},
		{"2c", "Kc2dTs", "Kc", "2d", "Kc"},
		{"2c", "2s2hKc", "Kc", "2s", "Kc"},
		{"2c", "2s2hKs5s6h", "2h", "2s", "2s"},
		{"2c", "2s2hKs6h", "2h", "2s", "2h"},
		{"2c", "Ks2h", "2h", "2h", "2h"},
		{"2c", "KsKd", "", "", ""},
		{"2c", "KsKdTs9s2d", "2d", "2d", "2d"},
	} {
		g := smallGame(twoRules(1), c.heap, c.hand, true)
		for kind, s := range map[int]string{0: c.least, 1: c.most, 2: c.suit, 3: "", 4: "", -1: ""} {
			want := -1
			if s != "" {
				want = hand(s)[0]
			}
			if got := impl.ChoiceOf(g, kind); got != want {
				t.Errorf("on %s, of %s the kind %d plays %d, not %s", c.heap, c.hand, kind, got, s)
			}
		}
		checkChoices(t, g)
	}
}

// Without a card to play, after the end, and in games that are none, every kind takes cards.
func TestNothingToChoose(t *testing.T) {
	games := changedGames(newGame(t, easyRules(), wholeDeck()))
	won := newGame(t, impl.Rules{Players: 2, Each: 1, SameSuit: true, Take: 1, Limit: 3}, wholeDeck())
	won, _ = impl.PlayOn(won, 0)
	games = append(games, won)
	for _, g := range games {
		for _, kind := range everyKind {
			if got := impl.ChoiceOf(g, kind); got != -1 {
				t.Errorf("ChoiceOf(%v, %d) is %d", g, kind, got)
			}
			if got, ok := impl.AutoMove(g, kind); ok || !sameGames(got, g) {
				t.Errorf("AutoMove(%v, %d) is %v, %t", g, kind, got, ok)
			}
		}
		if got := impl.BestFor(g); got != -1 {
			t.Errorf("BestFor(%v) is %d", g, got)
		}
	}
}

// Programs that only take play no card, whatever they could play.
func TestProgramsThatOnlyTake(t *testing.T) {
	random := numbers{239}
	for range 40 {
		g := random.someGame(t)
		if impl.IsEnded(g) {
			continue
		}
		for _, kind := range everyKind[3:] {
			want, _ := impl.TakeCards(g)
			if got, ok := impl.AutoMove(g, kind); !ok || !sameGames(got, want) || len(got.Hands[g.Turn]) < len(g.Hands[g.Turn]) {
				t.Errorf("AutoMove(%v, %d) is %v, %t", g, kind, got, ok)
			}
		}
	}
}

// Promise 25: in any game, a program plays what can be played, or takes cards.
func TestProgramsPlayOnlyWhatCanBePlayed(t *testing.T) {
	random := numbers{241}
	best := [4]int{}
	for range 400 {
		g := random.someGame(t)
		playable := slowPlayable(g)
		for _, kind := range everyKind {
			c := impl.ChoiceOf(g, kind)
			if c != -1 && !slices.Contains(playable, c) || c == -1 && len(playable) > 0 && kind >= 0 && kind <= 2 {
				t.Errorf("of %v the kind %d plays %d", playable, kind, c)
			}
			next, ok := impl.AutoMove(g, kind)
			if ok == impl.IsEnded(g) || !impl.IsGame(next) {
				t.Errorf("AutoMove(%v, %d) is %v, %t", g, kind, next, ok)
			}
		}
		checkChoices(t, g)
		best[impl.BestFor(g)+1]++
	}
	if slices.Contains(best[:], 0) {
		t.Errorf("not all kinds are the best one at times: %v", best)
	}
}

func TestSuitCounts(t *testing.T) {
	for _, c := range []struct{ l, want []int }{
		{nil, []int{0, 0, 0, 0}},
		{[]int{}, []int{0, 0, 0, 0}},
		{[]int{0, 13, 14, 51, 60}, []int{1, 2, 0, 1}},
		{[]int{12, 13, 25, 26, 38, 39}, []int{1, 2, 2, 1}},
		{[]int{5, 5, 5}, []int{3, 0, 0, 0}},
		{wholeDeck(), []int{13, 13, 13, 13}},
		{noCards, []int{0, 0, 0, 0}},
	} {
		if got := impl.SuitCounts(c.l); !slices.Equal(got, c.want) {
			t.Errorf("SuitCounts(%v) is %v", c.l, got)
		}
		keepsInts(t, "SuitCounts", c.l, impl.SuitCounts)
	}
}

func TestMostOf(t *testing.T) {
	for _, c := range []struct {
		l    []int
		want int
	}{
		{nil, -1}, {[]int{}, -1}, {[]int{0}, 0}, {[]int{-7}, 0}, {[]int{3, 5, 5}, 1}, {[]int{5, 3, 5}, 0}, {[]int{1, 2, 3}, 2}, {[]int{3, 2, 1}, 0}, {[]int{-3, -2, -2}, 1}, {[]int{0, 0, 0}, 0},
		{[]int{math.MinInt, math.MinInt}, 0}, {[]int{math.MinInt, math.MaxInt, math.MaxInt}, 1}, {[]int{-1, math.MinInt, 0}, 2},
	} {
		if got := impl.MostOf(c.l); got != c.want {
			t.Errorf("MostOf(%v) is %d", c.l, got)
		}
		keepsInts(t, "MostOf", c.l, func(l []int) []int { impl.MostOf(l); return nil })
	}
}

func TestChoicesKeepArguments(t *testing.T) {
	random := numbers{251}
	games := changedGames(newGame(t, easyRules(), wholeDeck()))[:20]
	for range 40 {
		games = append(games, random.someGame(t))
	}
	for _, g := range games {
		for kind := range 4 {
			keepsGame(t, "AutoMove", g, func(g impl.Game) impl.Game {
				impl.ChoiceOf(g, kind)
				impl.BestFor(g)
				next, _ := impl.AutoMove(g, kind)
				return next
			})
		}
	}
}
