package tests

import (
	"math"
	"slices"
	"testing"

	"loop.example/g03010/impl"
)

func cloneTable(x impl.Table) impl.Table {
	x.Rules = cloneRules(x.Rules)
	x.Seals = slices.Clone(x.Seals)
	x.Deck = slices.Clone(x.Deck)
	x.Game = cloneGame(x.Game)
	x.Record = slices.Clone(x.Record)
	x.Sheet = cloneRows(x.Sheet)
	return x
}

func sameTables(a impl.Table, b impl.Table) bool {
	return sameRules(a.Rules, b.Rules) && slices.Equal(a.Seals, b.Seals) && a.On == b.On && slices.Equal(a.Deck, b.Deck) && sameGames(a.Game, b.Game) && slices.Equal(a.Record, b.Record) && equalRows(a.Sheet, b.Sheet)
}

func isZeroTable(x impl.Table) bool {
	return sameTables(x, impl.Table{})
}

func slowNewGame(r impl.Rules, deck []int) (impl.Game, bool) {
	if !slowIsRules(r) || !slices.Equal(slices.Sorted(slices.Values(deck)), wholeDeck()) {
		return impl.Game{}, false
	}
	g := impl.Game{Rules: r, Hands: make([][]int, r.Players)}
	next := r.Players * r.Each
	for i, c := range deck[:next] {
		g.Hands[i%r.Players] = append(g.Hands[i%r.Players], c)
	}
	g.Heap, g.Stock = deck[next:next+1], deck[next+1:]
	return cloneGame(g), true
}

func slowIsTable(x impl.Table) bool {
	if !slowIsRules(x.Rules) || len(x.Seals) > x.Rules.Players || !slowIsSheet(x.Rules.Players, x.Sheet) {
		return false
	}
	if !x.On {
		return len(x.Deck) == 0 && len(x.Record) == 0 && isZeroGame(x.Game)
	}
	g, ok := slowNewGame(x.Rules, x.Deck)
	last, made := slowReplayed(g, x.Record)
	return ok && len(x.Seals) == x.Rules.Players && made == len(x.Record) && sameGames(last, x.Game)
}

func newTable(t *testing.T, r impl.Rules) impl.Table {
	t.Helper()
	x, ok := impl.NewTable(r)
	if !ok {
		t.Fatalf("NewTable(%v) is false", r)
	}
	return x
}

// offTable returns a table without a game, with fewer seals than players now and then.
func (n *numbers) offTable() impl.Table {
	r := n.someRules()
	x := impl.Table{Rules: r, Sheet: n.someSheet(r.Players, n.below(4))}
	for range min(n.below(7), r.Players) {
		x.Seals = append(x.Seals, n.below(cryptoModulus))
	}
	return x
}

// dealtTable returns a table with a game that was dealt from what the players have sealed.
func (n *numbers) dealtTable(t *testing.T, r impl.Rules) (impl.Table, opening) {
	t.Helper()
	o := n.someOpening(r.Players)
	deck := slowShuffled(wholeDeck(), slowJointSeed(o.seeds))
	return impl.Table{Rules: r, Seals: o.clone().seals, On: true, Deck: deck, Game: newGame(t, r, deck), Sheet: n.someSheet(r.Players, n.below(4))}, o
}

// played makes moves at random, at most as many as are asked for.
func (n *numbers) played(x impl.Table, moves int) impl.Table {
	next := cloneTable(x)
	for range moves {
		move := -1
		if playable := impl.Playable(next.Game); len(playable) > 0 && n.below(5) > 0 {
			move = playable[n.below(len(playable))]
		}
		g, ok := impl.ReplayMove(next.Game, move)
		if !ok {
			break
		}
		next.Game, next.Record = g, append(next.Record, move)
	}
	return next
}

// onTable returns a table with a game after some moves.
func (n *numbers) onTable(t *testing.T) impl.Table {
	t.Helper()
	x, _ := n.dealtTable(t, n.someRules())
	return n.played(x, n.below(60))
}

// someTable returns a table with or without a game.
func (n *numbers) someTable(t *testing.T) impl.Table {
	t.Helper()
	if n.below(3) == 0 {
		return n.offTable()
	}
	return n.onTable(t)
}

// easyTable is a table after one move.
func easyTable() impl.Table {
	g, _ := impl.NewGame(easyRules(), wholeDeck())
	g, _ = impl.PlayOn(g, 6)
	return impl.Table{Rules: easyRules(), Seals: []int{1, 2, 3}, On: true, Deck: wholeDeck(), Game: g, Record: []int{6}, Sheet: [][]int{{3, -3, 0}}}
}

// changedTables returns tables that are as x, but for one thing that makes them invalid.
func changedTables(x impl.Table) []impl.Table {
	tables := []impl.Table{{}}
	change := func(f func(x *impl.Table)) {
		changed := cloneTable(x)
		f(&changed)
		tables = append(tables, changed)
	}
	for _, r := range changedRules(x.Rules) {
		change(func(x *impl.Table) { x.Rules = r })
	}
	players := x.Rules.Players
	change(func(x *impl.Table) { x.Seals = append(x.Seals, countUp(len(x.Seals), players+1)...) })
	change(func(x *impl.Table) { x.Seals = make([]int, 99) })
	for _, sheet := range [][][]int{{nil}, {make([]int, players+1)}, {make([]int, players-1)}, {append(make([]int, players-1), 1)}, {make([]int, players), append(make([]int, players-2), 1001, -1001)}, slices.Repeat([][]int{make([]int, players)}, 51)} {
		change(func(x *impl.Table) { x.Sheet = sheet })
	}
	change(func(x *impl.Table) { x.On = !x.On })
	if x.On {
		return append(tables, changedOnTables(x)...)
	}
	change(func(x *impl.Table) { x.Deck = []int{0} })
	change(func(x *impl.Table) { x.Deck = wholeDeck() })
	change(func(x *impl.Table) { x.Record = []int{-1} })
	change(func(x *impl.Table) { x.Game, _ = impl.NewGame(x.Rules, wholeDeck()) })
	change(func(x *impl.Table) { x.Game.Rules = x.Rules })
	change(func(x *impl.Table) { x.Game.Hands = [][]int{nil} })
	change(func(x *impl.Table) { x.Game.Stock = []int{5} })
	change(func(x *impl.Table) { x.Game.Heap = []int{5} })
	change(func(x *impl.Table) { x.Game.Turn = 1 })
	change(func(x *impl.Table) { x.Game.Moves = 1 })
	change(func(x *impl.Table) { x.Game.Passes = -1 })
	change(func(x *impl.Table) { x.On, x.Deck = true, wholeDeck() })
	return tables
}

// changedOnTables are those that only a table with a game can have.
func changedOnTables(x impl.Table) []impl.Table {
	tables := []impl.Table{}
	change := func(f func(x *impl.Table)) {
		changed := cloneTable(x)
		f(&changed)
		tables = append(tables, changed)
	}
	for _, g := range changedGames(x.Game) {
		change(func(x *impl.Table) { x.Game = g })
	}
	change(func(x *impl.Table) { x.Rules.Limit = x.Rules.Limit%400 + 1 })
	change(func(x *impl.Table) { x.Game.Rules.Limit = x.Game.Rules.Limit%400 + 1 })
	change(func(x *impl.Table) { x.Seals = x.Seals[1:] })
	change(func(x *impl.Table) { x.Seals = nil })
	change(func(x *impl.Table) { x.Deck = nil })
	change(func(x *impl.Table) { x.Deck = x.Deck[1:] })
	change(func(x *impl.Table) { x.Deck[0] = 52 })
	change(func(x *impl.Table) { x.Deck[0], x.Deck[51] = x.Deck[51], x.Deck[0] })
	change(func(x *impl.Table) { x.Deck[0] = x.Deck[1] })
	change(func(x *impl.Table) { x.Deck = append(x.Deck, x.Deck[0]) })
	change(func(x *impl.Table) { x.Game.Turn = (x.Game.Turn + 1) % x.Rules.Players })
	change(func(x *impl.Table) { x.Game.Hands[0], x.Game.Hands[1] = x.Game.Hands[1], x.Game.Hands[0] })
	change(func(x *impl.Table) { x.Record = append(x.Record, -1) })
	change(func(x *impl.Table) { x.Record = append(x.Record, 99) })
	change(func(x *impl.Table) { x.Record = append(x.Record, math.MinInt) })
	if len(x.Record) > 0 {
		change(func(x *impl.Table) { x.Record = x.Record[1:] })
		change(func(x *impl.Table) { x.Record = x.Record[:len(x.Record)-1] })
		change(func(x *impl.Table) { x.Record = nil })
		change(func(x *impl.Table) { x.Record[len(x.Record)-1] = -2 })
	}
	change(func(x *impl.Table) { x.Deck, x.Record, x.Game = nil, nil, impl.Game{} })
	return tables
}

func TestIsTable(t *testing.T) {
	random := numbers{379}
	tables := []impl.Table{easyTable(), newTable(t, easyRules())}
	for range 25 {
		tables = append(tables, random.someTable(t))
	}
	for _, x := range tables {
		if !impl.IsTable(x) || !slowIsTable(x) {
			t.Errorf("%v is no table", x)
		}
		for i, changed := range changedTables(x) {
			if impl.IsTable(changed) || slowIsTable(changed) {
				t.Errorf("%d: %v is a table", i, changed)
			}
		}
	}
}

// Seals may be any numbers, up to as many as there are players, and as many if a game is on.
func TestSealsOfATable(t *testing.T) {
	for players := 2; players <= 6; players++ {
		x := newTable(t, smallRules(players))
		for count := range 9 {
			x.Seals = slices.Repeat([]int{math.MinInt}, count)
			if got := impl.IsTable(x); got != (count <= players) {
				t.Errorf("with %d seals of %d players, IsTable is %t", count, players, got)
			}
			if got := impl.IsSealed(x); got != (count == players) {
				t.Errorf("with %d seals of %d players, IsSealed is %t", count, players, got)
			}
		}
	}
}

func TestSheetOfATable(t *testing.T) {
	random := numbers{383}
	for _, size := range []int{0, 1, 49, 50, 51, 52} {
		for _, x := range []impl.Table{newTable(t, easyRules()), easyTable()} {
			x.Sheet = random.someSheet(3, size)
			if got := impl.IsTable(x); got != (size <= 50) {
				t.Errorf("with %d rounds, IsTable is %t", size, got)
			}
			if got := impl.GamesPlayed(x); got != size {
				t.Errorf("of %d rounds, GamesPlayed is %d", size, got)
			}
		}
	}
	if impl.GamesPlayed(impl.Table{}) != 0 || impl.GamesPlayed(impl.Table{Sheet: make([][]int, 99)}) != 99 {
		t.Errorf("GamesPlayed does not count rounds")
	}
}

func TestIsSealed(t *testing.T) {
	x := newTable(t, easyRules())
	for _, c := range []struct {
		seals []int
		on    bool
		want  bool
	}{
		{nil, false, false}, {[]int{1, 2}, false, false}, {[]int{1, 2, 3}, false, true}, {[]int{1, 2, 3, 4}, false, false}, {[]int{1, 2, 3}, true, false}, {nil, true, false},
	} {
		x.Seals, x.On = c.seals, c.on
		if got := impl.IsSealed(x); got != c.want {
			t.Errorf("IsSealed(%v) is %t", x, got)
		}
	}
	if impl.IsSealed(easyTable()) {
		t.Errorf("a table with a game is sealed")
	}
}

// Promise 33: a new table is valid, whatever the rules are.
func TestANewTableIsValid(t *testing.T) {
	random := numbers{389}
	for range 200 {
		r := random.someRules()
		x, ok := impl.NewTable(r)
		if !ok || !sameTables(x, impl.Table{Rules: r}) || !impl.IsTable(x) || !slowIsTable(x) || impl.IsSealed(x) || impl.GamesPlayed(x) != 0 {
			t.Errorf("NewTable(%v) is %v, %t", r, x, ok)
		}
	}
}

func TestTablesWithoutRules(t *testing.T) {
	for _, r := range append(changedRules(easyRules()), impl.Rules{}) {
		if x, ok := impl.NewTable(r); ok || !isZeroTable(x) {
			t.Errorf("NewTable(%v) is %v, %t", r, x, ok)
		}
		if impl.IsTable(impl.Table{Rules: r}) {
			t.Errorf("there is a table with the rules %v", r)
		}
	}
	if impl.IsTable(impl.Table{}) || impl.IsTable(impl.Table{On: true}) {
		t.Errorf("a table of nothing is valid")
	}
}

func TestEqualTables(t *testing.T) {
	x := easyTable()
	tables := append(changedTables(x)[:40], changedOnTables(x)...)
	tables = append(tables, x, cloneTable(x), newTable(t, easyRules()), impl.Table{}, impl.Table{Seals: []int{}, Deck: []int{}, Record: []int{}, Sheet: [][]int{}, Rules: impl.Rules{Wild: []int{}}, Game: impl.Game{Hands: [][]int{}}})
	change := func(f func(x *impl.Table)) {
		other := cloneTable(x)
		f(&other)
		tables = append(tables, other)
	}
	change(func(x *impl.Table) { x.On = false })
	change(func(x *impl.Table) { x.Rules.Wild = nil })
	change(func(x *impl.Table) { x.Seals[0]++ })
	change(func(x *impl.Table) { x.Seals[0] += 1 << 32 })
	change(func(x *impl.Table) { x.Seals, x.Record = x.Record, x.Seals })
	change(func(x *impl.Table) { x.Deck[50], x.Deck[51] = x.Deck[51], x.Deck[50] })
	change(func(x *impl.Table) { x.Sheet[0][0], x.Sheet[0][1] = x.Sheet[0][1], x.Sheet[0][0] })
	change(func(x *impl.Table) { x.Sheet = append(x.Sheet, x.Sheet[0]) })
	change(func(x *impl.Table) { x.Sheet = [][]int{{3, -3}, {0}} })
	change(func(x *impl.Table) { x.Sheet = nil })
	for i, a := range tables {
		for _, b := range tables {
			if got, want := impl.EqualTables(a, b), sameTables(a, b); got != want {
				t.Errorf("%d: EqualTables(%v, %v) is %t", i, a, b, got)
			}
		}
	}
}

// rowsOfTable returns all lists of a table.
func rowsOfTable(x impl.Table) [][]int {
	rows := [][]int{x.Rules.Wild, x.Rules.Skip, x.Seals, x.Deck, x.Record}
	return slices.Concat(rows, rowsOfGame(x.Game), x.Sheet)
}

// tableOf returns x with these lists instead of its own.
func tableOf(x impl.Table, rows [][]int) impl.Table {
	x.Rules.Wild, x.Rules.Skip, x.Seals, x.Deck, x.Record = rows[0], rows[1], rows[2], rows[3], rows[4]
	sheet := len(rows) - len(x.Sheet)
	x.Game, x.Sheet = gameOf(x.Game, rows[5:sheet]), rows[sheet:]
	return x
}

// keepsTable is keepsRows for a function of a table that returns one.
func keepsTable(t *testing.T, name string, x impl.Table, f func(x impl.Table) impl.Table) {
	t.Helper()
	keepsRows(t, name, rowsOfTable(x), func(rows [][]int) [][]int { return rowsOfTable(f(tableOf(x, rows))) })
}

func TestTablesKeepArguments(t *testing.T) {
	random := numbers{397}
	tables := append(changedTables(easyTable()), easyTable())
	for range 20 {
		tables = append(tables, random.someTable(t))
	}
	for _, x := range tables {
		keepsTable(t, "NewTable and others", x, func(x impl.Table) impl.Table {
			impl.IsTable(x)
			impl.IsSealed(x)
			impl.GamesPlayed(x)
			impl.EqualTables(x, x)
			made, _ := impl.NewTable(x.Rules)
			return made
		})
	}
}
