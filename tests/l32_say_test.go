package tests

import (
	"fmt"
	"math"
	"strings"
	"testing"

	"loop.example/g03010/impl"
)

func slowGameText(g impl.Game) string {
	if !slowIsGame(g) {
		return ""
	}
	text := fmt.Sprintf("%d:%s", g.Turn, deckTexts[g.Heap[len(g.Heap)-1]])
	for _, l := range g.Hands {
		text += fmt.Sprintf(" %d", len(l))
	}
	return text + fmt.Sprintf("/%d", len(g.Stock))
}

// slowHandText writes "?" for what is no card.
func slowHandText(l []int) string {
	text := ""
	for _, c := range l {
		if c >= 0 && c < 52 {
			text += deckTexts[c]
		} else {
			text += "?"
		}
	}
	if text == "" {
		return "-"
	}
	return text
}

func slowPeekText(p impl.Peek) string {
	text := fmt.Sprintf("%d:%s %s", p.Me, slowHandText(p.Hand), slowHandText([]int{p.Top}))
	for _, n := range p.Sizes {
		text += fmt.Sprintf(" %d", n)
	}
	return text
}

func slowPatienceText(p impl.Patience) string {
	if !slowIsPatience(p) {
		return ""
	}
	text := ""
	for _, pile := range p.Piles {
		for range pile.Hidden {
			text += "#"
		}
		text += slowHandText(pile.Cards[pile.Hidden:]) + " "
	}
	return text + fmt.Sprintf("[%d,%d,%d,%d] %d+%d", p.Base[0], p.Base[1], p.Base[2], p.Base[3], len(p.Stock), len(p.Waste))
}

func slowSheetText(players int, rounds [][]int) string {
	if !slowIsSheet(players, rounds) {
		return ""
	}
	totals := make([]int, players)
	for _, points := range rounds {
		for who, n := range points {
			totals[who] += n
		}
	}
	return strings.Trim(fmt.Sprint(totals), "[]")
}

func TestGameText(t *testing.T) {
	g := newGame(t, easyRules(), wholeDeck())
	if got := impl.GameText(g); got != "0:4d 5 5 5/36" {
		t.Errorf("GameText is %q", got)
	}
	g, _ = impl.Replayed(g, []int{6, -1, 5, 12})
	if got := impl.GameText(g); got != "2:Ac 3 6 4/35" {
		t.Errorf("GameText is %q", got)
	}
	if got := impl.GameText(gameWith("", "2c3c", "Kd", "", "5s", "AdAhAs")); got != "0:Ks 0 2 1 0 1 3/0" {
		t.Errorf("GameText is %q", got)
	}
	for _, g := range changedGames(newGame(t, easyRules(), wholeDeck())) {
		if got := impl.GameText(g); got != "" {
			t.Errorf("GameText(%v) is %q", g, got)
		}
	}
}

func TestPeekText(t *testing.T) {
	for _, c := range []struct {
		p    impl.Peek
		want string
	}{
		{impl.Peek{Me: 1, Hand: hand("3c6c9cQc2d"), Top: 15, Sizes: []int{5, 5, 5}}, "1:3c6c9cQc2d 4d 5 5 5"},
		{impl.Peek{}, "0:- 2c"},
		{impl.Peek{Top: -1}, "0:- ?"},
		{impl.Peek{Top: 52, Hand: []int{}, Sizes: []int{}}, "0:- ?"},
		{impl.Peek{Me: -3, Hand: []int{51, -1, 0}, Top: 51, Sizes: []int{-7}}, "-3:As?2c As -7"},
		{impl.Peek{Me: math.MinInt, Hand: []int{math.MaxInt}, Top: math.MinInt, HeapSize: 9, StockSize: 8, Sizes: []int{0, math.MaxInt}, Turn: 7, Moves: 6}, "-9223372036854775808:? ? 0 9223372036854775807"},
	} {
		if got := impl.PeekText(c.p); got != c.want || got != slowPeekText(c.p) {
			t.Errorf("PeekText(%v) is %q, not %q", c.p, got, c.want)
		}
	}
}

func TestPatienceText(t *testing.T) {
	p := newPatience(t, wholeDeck(), 3)
	turned, _ := impl.Turn(p)
	empty := impl.Patience{Piles: []impl.Pile{{}, pileOf("KsQd", 0), {}, pileOf("KdQs", 1), {Cards: []int{}}}, Base: []int{13, 11, 13, 11}}
	for _, c := range []struct {
		p    impl.Patience
		want string
	}{
		{p, "2c #4c ##7c [0,0,0,0] 46+0"},
		{turned, "2c #4c ##7c [0,0,0,0] 45+1"},
		{newPatience(t, wholeDeck(), 1), "2c [0,0,0,0] 51+0"},
		{newPatience(t, wholeDeck(), 7), "2c #4c ##7c ###Jc ####3d #####9d ######3h [0,0,0,0] 24+0"},
		{wonPatience(1), "- [13,13,13,13] 0+0"},
		{wonPatience(7), "- - - - - - - [13,13,13,13] 0+0"},
		{impl.Patience{Piles: make([]impl.Pile, 2), Base: []int{13, 13, 13, 12}, Waste: hand("Ks")}, "- - [13,13,13,12] 0+1"},
		{empty, "- KsQd - #Qs - [13,11,13,11] 0+0"},
	} {
		if got := impl.PatienceText(c.p); got != c.want || got != slowPatienceText(c.p) {
			t.Errorf("PatienceText(%v) is %q, not %q", c.p, got, c.want)
		}
	}
}

// A pile without cards, in a game that goes on, is told by "-", and cards that lie open together stand together.
func TestPilesWithoutCards(t *testing.T) {
	random := numbers{359}
	empty, together := 0, 0
	for range 60 {
		p := newPatience(t, random.someHand(52), 1+random.below(7))
		for range 300 {
			if next, ok := random.someMove(t, p); ok {
				p = next
			}
		}
		got := impl.PatienceText(p)
		if got != slowPatienceText(p) || got == "" {
			t.Errorf("PatienceText(%v) is %q, not %q", p, got, slowPatienceText(p))
		}
		for _, pile := range p.Piles {
			if len(pile.Cards) == 0 {
				empty++
			}
			if len(pile.Cards) > pile.Hidden+1 {
				together++
			}
		}
	}
	if empty < 5 || together < 30 {
		t.Errorf("%d piles without cards and %d with several open ones are too few", empty, together)
	}
}

func TestNoPatienceText(t *testing.T) {
	turned, _ := impl.Turn(newPatience(t, wholeDeck(), 3))
	for _, p := range append(changedPatience(turned), changedPatience(wonPatience(2))...) {
		if got := impl.PatienceText(p); got != "" {
			t.Errorf("PatienceText(%v) is %q", p, got)
		}
	}
	for _, piles := range []int{0, 8} {
		if got := impl.PatienceText(wonPatience(piles)); got != "" {
			t.Errorf("of %d piles, PatienceText is %q", piles, got)
		}
	}
}

func TestSheetText(t *testing.T) {
	for _, c := range []struct {
		players int
		rounds  [][]int
		want    string
	}{
		{3, [][]int{{3, -3, 0}, {-5, 2, 3}}, "-2 -1 3"},
		{2, nil, "0 0"},
		{6, [][]int{}, "0 0 0 0 0 0"},
		{2, [][]int{{1000, -1000}, {1000, -1000}}, "2000 -2000"},
		{1, nil, ""}, {7, nil, ""}, {0, nil, ""}, {-1, nil, ""}, {math.MaxInt, nil, ""}, {math.MinInt, nil, ""},
		{2, [][]int{{1001, -1001}}, ""}, {2, [][]int{{1, 0}}, ""}, {3, [][]int{{1, -1}}, ""}, {2, [][]int{{1, -1}, nil}, ""}, {2, [][]int{{}}, ""},
		{2, make([][]int, 51), ""},
	} {
		if got := impl.SheetText(c.players, c.rounds); got != c.want || got != slowSheetText(c.players, c.rounds) {
			t.Errorf("SheetText(%d, %v) is %q, not %q", c.players, c.rounds, got, c.want)
		}
	}
	random := numbers{367}
	for _, size := range []int{49, 50, 51} {
		sheet := random.someSheet(4, size)
		if got := impl.SheetText(4, sheet); got != slowSheetText(4, sheet) || (got == "") != (size > 50) {
			t.Errorf("SheetText of %d rounds is %q", size, got)
		}
	}
}

func TestCallsText(t *testing.T) {
	for _, c := range []struct {
		calls []int
		want  string
	}{
		{nil, "-"}, {[]int{}, "-"}, {[]int{0}, "p"}, {[]int{0, 5, 7, 0}, "p 5 7 p"}, {[]int{0, 0, 0}, "p p p"}, {[]int{35}, "35"}, {[]int{36, -1, 100, 0}, "36 -1 100 p"}, {[]int{math.MinInt, math.MaxInt}, "-9223372036854775808 9223372036854775807"},
	} {
		if got := impl.CallsText(c.calls); got != c.want {
			t.Errorf("CallsText(%v) is %q, not %q", c.calls, got, c.want)
		}
	}
}

// Promise 32: a text is empty just if there is nothing to tell, because what it is about is not valid.
func TestTextsTellWhetherThereIsSomethingToTell(t *testing.T) {
	random := numbers{373}
	for range 150 {
		g := random.someGame(t)
		for i, g := range append([]impl.Game{g}, changedGames(g)...) {
			if got := impl.GameText(g); got != slowGameText(g) || (got != "") != impl.IsGame(g) || (got != "") != (i == 0) {
				t.Errorf("GameText(%v) is %q, not %q", g, got, slowGameText(g))
			}
		}
		for me := -1; me <= g.Rules.Players; me++ {
			p, _ := impl.PeekOf(g, me)
			if got := impl.PeekText(p); got != slowPeekText(p) || got == "" {
				t.Errorf("PeekText(%v) is %q, not %q", p, got, slowPeekText(p))
			}
		}
		players := 1 + random.below(7)
		sheet := random.someSheet(max(2, min(players, 6)), random.below(5))
		if len(sheet) > 0 && random.below(3) == 0 {
			sheet[0][0]++
		}
		if got := impl.SheetText(players, sheet); got != slowSheetText(players, sheet) || (got != "") != impl.IsSheet(players, sheet) {
			t.Errorf("SheetText(%d, %v) is %q, not %q", players, sheet, got, slowSheetText(players, sheet))
		}
	}
}

func TestTextsKeepArguments(t *testing.T) {
	g := newGame(t, easyRules(), wholeDeck())
	keepsRows(t, "GameText", rowsOfGame(g), func(rows [][]int) [][]int { impl.GameText(gameOf(g, rows)); return nil })
	keepsRows(t, "PeekText", [][]int{{5, 3}, {2, 3}}, func(rows [][]int) [][]int {
		impl.PeekText(impl.Peek{Hand: rows[0], Sizes: rows[1]})
		return nil
	})
	p := newPatience(t, wholeDeck(), 3)
	keepsRows(t, "PatienceText", rowsOfPatience(p), func(rows [][]int) [][]int {
		piles := []impl.Pile{}
		for i, l := range rows[3:] {
			piles = append(piles, impl.Pile{Cards: l, Hidden: i})
		}
		impl.PatienceText(impl.Patience{Base: rows[0], Stock: rows[1], Waste: rows[2], Piles: piles})
		return nil
	})
	keepsRows(t, "SheetText", [][]int{{3, -3, 0}, {-5, 2, 3}}, func(rows [][]int) [][]int { impl.SheetText(3, rows); return nil })
	keepsInts(t, "CallsText", []int{0, 5, 7, 0}, func(l []int) []int { impl.CallsText(l); return nil })
}
