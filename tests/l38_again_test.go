package tests

import (
	"math"
	"slices"
	"testing"

	"loop.example/g03010/impl"
)

func slowGameAt(x impl.Table, n int) (impl.Game, bool) {
	if !slowIsTable(x) || !x.On || n < 0 || n > len(x.Record) {
		return impl.Game{}, false
	}
	g, _ := slowNewGame(x.Rules, x.Deck)
	g, _ = slowReplayed(g, x.Record[:n])
	return g, true
}

func slowBlunders(x impl.Table) []int {
	blunders := []int{}
	for i, move := range x.Record {
		if g, ok := slowGameAt(x, i); ok && move == -1 && len(slowPlayable(g)) > 0 {
			blunders = append(blunders, i)
		}
	}
	return blunders
}

// checkAgain checks what is after n moves of a table.
func checkAgain(t *testing.T, x impl.Table, n int, kinds []int) {
	t.Helper()
	want, may := slowGameAt(x, n)
	if got, ok := impl.GameAt(x, n); ok != may || !sameGames(got, want) {
		t.Errorf("GameAt(%v, %d) is %v, %t, not %v", x, n, got, ok, want)
	}
	if got := impl.CouldHave(x, n); !slices.Equal(got, slowPlayable(want)) {
		t.Errorf("CouldHave(%v, %d) is %v, not %v", x, n, got, slowPlayable(want))
	}
	branch, ok := impl.Branch(x, n, kinds)
	if ok != may || !sameGames(branch, slowPlayOut(want, kinds)) {
		t.Errorf("Branch(%v, %d, %v) is %v, %t, not %v", x, n, kinds, branch, ok, slowPlayOut(want, kinds))
	}
}

func TestGameAt(t *testing.T) {
	x := easyTable()
	first := newGame(t, easyRules(), wholeDeck())
	if got, ok := impl.GameAt(x, 0); !ok || !sameGames(got, first) {
		t.Errorf("before all moves, the game is %v, %t", got, ok)
	}
	if got, ok := impl.GameAt(x, 1); !ok || !sameGames(got, x.Game) {
		t.Errorf("after all moves, the game is %v, %t", got, ok)
	}
	x.Game, x.Record = first, nil
	if got, ok := impl.GameAt(x, 0); !ok || !sameGames(got, first) {
		t.Errorf("without moves, the game is %v, %t", got, ok)
	}
	checkAgain(t, x, 1, nil)
}

func TestGameAtRange(t *testing.T) {
	random := numbers{563}
	for range 30 {
		x := random.onTable(t)
		moves := len(x.Record)
		for _, n := range []int{-2, -1, moves + 1, moves + 2, 400, 401, math.MinInt, math.MaxInt} {
			if n > 2 && n <= moves {
				continue
			}
			if got, ok := impl.GameAt(x, n); ok || !isZeroGame(got) {
				t.Errorf("after %d of %d moves, the game is %v, %t", n, moves, got, ok)
			}
			if got, ok := impl.Branch(x, n, []int{0, 1, 2}); ok || !isZeroGame(got) {
				t.Errorf("after %d of %d moves, Branch is %v, %t", n, moves, got, ok)
			}
			if got := impl.CouldHave(x, n); len(got) != 0 {
				t.Errorf("after %d of %d moves, CouldHave is %v", n, moves, got)
			}
		}
	}
}

func TestNothingToPlayAgain(t *testing.T) {
	random := numbers{569}
	tables := append(changedTables(easyTable()), newTable(t, easyRules()), impl.Table{})
	tables = append(tables, changedTables(random.played(easyTable(), 12))...)
	for range 20 {
		tables = append(tables, random.offTable())
	}
	for i, x := range tables {
		for n := -1; n <= 2; n++ {
			if got, ok := impl.GameAt(x, n); ok || !isZeroGame(got) {
				t.Errorf("%d: GameAt(%v, %d) is %v, %t", i, x, n, got, ok)
			}
			if got, ok := impl.Branch(x, n, nil); ok || !isZeroGame(got) {
				t.Errorf("%d: Branch(%v, %d) is %v, %t", i, x, n, got, ok)
			}
			if got := impl.CouldHave(x, n); len(got) != 0 {
				t.Errorf("%d: CouldHave(%v, %d) is %v", i, x, n, got)
			}
		}
		if got := impl.Blunders(x); len(got) != 0 {
			t.Errorf("%d: Blunders(%v) is %v", i, x, got)
		}
	}
}

// Promise 38: a game can be played again up to every move, and goes on from there as it did, or in another way.
func TestGamesCanBePlayedAgainUpToEveryMove(t *testing.T) {
	random := numbers{571}
	moves, others := 0, 0
	for range 25 {
		x := random.onTable(t)
		kinds := random.someKinds()
		for n := range len(x.Record) + 1 {
			g, ok := impl.GameAt(x, n)
			if last, made := impl.Replayed(g, x.Record[n:]); !ok || !sameGames(last, x.Game) || made != len(x.Record)-n || g.Moves != n {
				t.Fatalf("after %d of %d moves, the game is %v, %t", n, len(x.Record), g, ok)
			}
			if n%5 == 0 {
				checkAgain(t, x, n, kinds)
			}
			if branch, _ := impl.Branch(x, n, kinds); !impl.IsEnded(branch) || !impl.IsGame(branch) {
				t.Errorf("from %v, Branch is %v", g, branch)
			} else if !sameGames(branch, x.Game) {
				others++
			}
			if n < len(x.Record) && x.Record[n] >= 0 && !slices.Contains(impl.CouldHave(x, n), x.Record[n]) {
				t.Errorf("%d was played, but could not be", x.Record[n])
			}
		}
		checkAgain(t, x, len(x.Record), kinds)
		moves += len(x.Record)
	}
	if moves < 300 || others < 100 {
		t.Errorf("%d moves and %d other ways are too few", moves, others)
	}
}

// A whole game is played again by its own kinds from every move.
func TestBranchOfTheSameKinds(t *testing.T) {
	random := numbers{577}
	for range 10 {
		r := random.someRules()
		r.Limit = 1 + r.Limit%40
		kinds := random.someKinds()
		x, _ := random.dealtTable(t, r)
		x = tableAtEnd(x, kinds)
		for n := range len(x.Record) + 1 {
			if got, ok := impl.Branch(x, n, kinds); !ok || !sameGames(got, x.Game) {
				t.Errorf("from the move %d on, Branch is %v, %t", n, got, ok)
			}
		}
		if got := impl.CouldHave(x, len(x.Record)); len(got) != 0 {
			t.Errorf("after the end, CouldHave is %v", got)
		}
	}
}

func TestMovesThatCouldHaveBeenBetter(t *testing.T) {
	x := easyTable()
	x.Game, x.Record = newGame(t, easyRules(), wholeDeck()), nil
	for _, c := range []struct {
		record, blunders []int
	}{
		{nil, nil}, {[]int{-1}, []int{0}}, {[]int{6}, nil}, {[]int{-1, -1, -1}, []int{0, 1, 2}}, {[]int{6, -1, 5, 12, -1}, []int{1, 4}},
	} {
		y := cloneTable(x)
		y.Record = c.record
		made := 0
		y.Game, made = impl.Replayed(x.Game, c.record)
		want := slowBlunders(y)
		if got := impl.Blunders(y); made != len(c.record) || !slices.Equal(got, want) || !slices.Equal(got, c.blunders) {
			t.Errorf("the blunders of %v are %v, not %v or %v", c.record, got, want, c.blunders)
		}
	}
}

func TestBlunders(t *testing.T) {
	random := numbers{587}
	blunders, forced := 0, 0
	for range 25 {
		x := random.onTable(t)
		got, want := impl.Blunders(x), slowBlunders(x)
		if !slices.Equal(got, want) {
			t.Errorf("Blunders(%v) is %v, not %v", x, got, want)
		}
		blunders += len(got)
		forced += impl.CountTakes(x.Record) - len(got)
		x, _ = random.dealtTable(t, x.Rules)
		if got := impl.Blunders(tableAtEnd(x, []int{0, 1, 2, 0, 1, 2})); len(got) != 0 {
			t.Errorf("players who play what they can make the blunders %v", got)
		}
	}
	if blunders < 20 || forced < 20 {
		t.Errorf("%d blunders and %d cards that had to be taken are too few", blunders, forced)
	}
}

func TestFirstApart(t *testing.T) {
	for _, c := range []struct {
		a, b []int
		want int
	}{
		{nil, nil, -1}, {nil, []int{}, -1}, {[]int{1, 2}, []int{1, 2}, -1}, {[]int{1, 2}, []int{1, 3}, 1}, {[]int{1}, []int{1, 3}, 1}, {nil, []int{4}, 0}, {[]int{-1}, []int{1}, 0}, {[]int{5, 6, 7}, []int{5}, 1}, {[]int{5, 6, 7}, []int{5, 9}, 1}, {[]int{5, 9, 7}, []int{5, 9}, 2}, {[]int{math.MinInt}, []int{math.MaxInt}, 0}, {[]int{1, 2, 3}, []int{3, 2, 1}, 0}, {[]int{1, 2, 3}, []int{1, 3, 3}, 1},
	} {
		if got := impl.FirstApart(c.a, c.b); got != c.want {
			t.Errorf("FirstApart(%v, %v) is %d, not %d", c.a, c.b, got, c.want)
		}
		if got := impl.FirstApart(c.b, c.a); got != c.want {
			t.Errorf("FirstApart(%v, %v) is %d, not %d", c.b, c.a, got, c.want)
		}
	}
	random := numbers{593}
	for range 300 {
		a, b := make([]int, random.below(5)), make([]int, random.below(5))
		for i := range a {
			a[i] = random.below(2)
		}
		for i := range b {
			b[i] = random.below(2)
		}
		got := impl.FirstApart(a, b)
		if got < 0 && !slices.Equal(a, b) || got >= 0 && (!slices.Equal(a[:got], b[:got]) || got < len(a) && got < len(b) && a[got] == b[got] || got >= len(a) && got >= len(b)) {
			t.Errorf("FirstApart(%v, %v) is %d", a, b, got)
		}
	}
}

func TestPlayedAgainKeepsArguments(t *testing.T) {
	random := numbers{599}
	for _, x := range []impl.Table{{}, easyTable(), random.onTable(t), random.onTable(t), newTable(t, easyRules())} {
		for n := -1; n <= 2; n++ {
			keepsRows(t, "GameAt and others", append(rowsOfTable(x), []int{0, 1, 2}), func(rows [][]int) [][]int {
				last := len(rows) - 1
				y := tableOf(x, rows[:last])
				g, _ := impl.GameAt(y, n)
				branch, _ := impl.Branch(y, n, rows[last])
				return slices.Concat(rowsOfGame(g), rowsOfGame(branch), [][]int{impl.CouldHave(y, n), impl.Blunders(y)})
			})
		}
	}
	keepsRows(t, "FirstApart", [][]int{{1, 2}, {1, 3}}, func(rows [][]int) [][]int { impl.FirstApart(rows[0], rows[1]); return nil })
}
