package tests

import (
	"math"
	"slices"
	"testing"

	"loop.example/g03010/impl"
)

func slowNothingLost(x impl.Table) bool {
	return !x.On || slices.Equal(cardsOfGame(x.Game), wholeDeck())
}

func slowFault(x impl.Table) string {
	switch {
	case !slowNothingLost(x):
		return "cards"
	case len(x.Record) != x.Game.Moves:
		return "record"
	case !slowIsSheet(x.Rules.Players, x.Sheet):
		return "sheet"
	case !slowIsTable(x):
		return "table"
	}
	return ""
}

func checkAudit(t *testing.T, x impl.Table) {
	t.Helper()
	if got, want := impl.NothingLost(x), slowNothingLost(x); got != want {
		t.Errorf("NothingLost(%v) is %t", x, got)
	}
	if got, want := impl.IsRecorded(x), len(x.Record) == x.Game.Moves; got != want {
		t.Errorf("IsRecorded(%v) is %t", x, got)
	}
	if got, want := impl.IsZeroSum(x), slowIsSheet(x.Rules.Players, x.Sheet); got != want {
		t.Errorf("IsZeroSum(%v) is %t", x, got)
	}
	if got, want := impl.FaultOf(x), slowFault(x); got != want {
		t.Errorf("FaultOf(%v) is %q, not %q", x, got, want)
	}
}

// changedTable returns a copy of x after the changes.
func changedTable(x impl.Table, changes ...func(x *impl.Table)) impl.Table {
	changed := cloneTable(x)
	for _, change := range changes {
		change(&changed)
	}
	return changed
}

func TestCardsThatWereLost(t *testing.T) {
	random := numbers{521}
	for _, x := range []impl.Table{easyTable(), random.played(easyTable(), 3)} {
		if !impl.NothingLost(x) || impl.FaultOf(x) != "" {
			t.Errorf("of %v, a card is lost", x)
		}
		for i, change := range []func(x *impl.Table){
			func(x *impl.Table) { x.Game.Heap = x.Game.Heap[1:] },
			func(x *impl.Table) { x.Game.Heap = append(x.Game.Heap, x.Game.Heap[0]) },
			func(x *impl.Table) { x.Game.Heap[0] = x.Game.Heap[1] },
			func(x *impl.Table) { x.Game.Heap[0] = 52 },
			func(x *impl.Table) { x.Game.Heap[0] = -1 },
			func(x *impl.Table) { x.Game.Heap = append(x.Game.Heap, 52) },
			func(x *impl.Table) { x.Game.Heap = append(x.Game.Heap, math.MinInt) },
			func(x *impl.Table) { x.Game.Heap = nil },
			func(x *impl.Table) { x.Game.Stock = append(x.Game.Stock, x.Game.Heap[0]) },
			func(x *impl.Table) { x.Game.Hands = append(x.Game.Hands, []int{0}) },
			func(x *impl.Table) { x.Game.Hands[2] = append(x.Game.Hands[2], x.Game.Heap[0]) },
			func(x *impl.Table) { x.Game.Hands[1] = x.Game.Hands[1][1:] },
			func(x *impl.Table) { x.Game.Hands = x.Game.Hands[1:] },
			func(x *impl.Table) { x.Game.Stock, x.Game.Heap, x.Game.Hands = nil, nil, nil },
			func(x *impl.Table) { x.Game = impl.Game{} },
		} {
			changed := changedTable(x, change)
			if impl.NothingLost(changed) || impl.FaultOf(changed) != "cards" {
				t.Errorf("%d: of %v, no card is lost", i, changed)
			}
			checkAudit(t, changed)
			changed.On = false
			if !impl.NothingLost(changed) {
				t.Errorf("%d: without a game, a card is lost", i)
			}
			checkAudit(t, changed)
		}
	}
}

// Cards may lie anywhere, in any number of hands, as long as each is there once.
func TestNothingLostWhereverCardsAre(t *testing.T) {
	deck := wholeDeck()
	for _, g := range []impl.Game{{Stock: deck}, {Heap: deck}, {Hands: [][]int{deck}}, {Hands: [][]int{deck[:9], nil, deck[9:20]}, Stock: deck[20:30], Heap: deck[30:]}} {
		x := impl.Table{On: true, Game: g}
		if !impl.NothingLost(x) || impl.FaultOf(x) != "sheet" {
			t.Errorf("of %v, a card is lost", x)
		}
	}
	if impl.NothingLost(impl.Table{On: true}) || !impl.NothingLost(impl.Table{}) {
		t.Errorf("a table without cards has a game, or one without a game loses cards")
	}
}

func TestIsRecorded(t *testing.T) {
	for _, c := range []struct {
		record []int
		moves  int
		want   bool
	}{
		{nil, 0, true}, {[]int{}, 0, true}, {nil, 1, false}, {nil, -1, false}, {[]int{99}, 1, true}, {[]int{-1, 5}, 2, true}, {[]int{-1, 5}, 1, false}, {[]int{-1, 5}, 3, false}, {[]int{0}, math.MaxInt, false}, {nil, math.MinInt, false},
	} {
		for _, on := range []bool{false, true} {
			x := impl.Table{On: on, Record: c.record, Game: impl.Game{Moves: c.moves}}
			if got := impl.IsRecorded(x); got != c.want {
				t.Errorf("with %v and %d moves, IsRecorded is %t", c.record, c.moves, got)
			}
		}
	}
}

func TestIsZeroSum(t *testing.T) {
	random := numbers{487}
	for players := -1; players <= 8; players++ {
		for _, sheet := range append([][][]int{nil, {}, slices.Repeat([][]int{{1, -1}}, 50), slices.Repeat([][]int{{1, -1}}, 51), random.someSheet(3, 50), random.someSheet(3, 51)}, random.someSheet(2, 3), random.someSheet(6, 3)) {
			x := impl.Table{Rules: impl.Rules{Players: players}, Sheet: sheet}
			if got, want := impl.IsZeroSum(x), slowIsSheet(players, sheet); got != want {
				t.Errorf("IsZeroSum for %d players of %v is %t", players, sheet, got)
			}
		}
	}
	for _, points := range noRounds {
		if impl.IsZeroSum(impl.Table{Rules: impl.Rules{Players: len(points)}, Sheet: [][]int{points}}) {
			t.Errorf("%v adds up to 0", points)
		}
	}
}

func TestIsFairDeck(t *testing.T) {
	random := numbers{491}
	for players := 2; players <= 6; players++ {
		x, o := random.dealtTable(t, smallRules(players))
		x = random.played(x, 5)
		if !impl.IsFairDeck(x, o.seeds, o.salts) {
			t.Errorf("the deck of %v is not fair", x)
		}
		other := random.someOpening(players)
		for _, p := range []opening{{}, other, {seeds: o.seeds}, {salts: o.salts}, {seeds: o.salts, salts: o.seeds}, {seeds: o.seeds[1:], salts: o.salts[1:]}, {seeds: append(slices.Clone(o.seeds), 0), salts: append(slices.Clone(o.salts), 0)}} {
			if impl.IsFairDeck(x, p.seeds, p.salts) {
				t.Errorf("with %v the deck of %v is fair", p, x)
			}
		}
		for i, changed := range []impl.Table{
			changedTable(x, func(x *impl.Table) { x.On = false }),
			changedTable(x, func(x *impl.Table) { x.Deck[0], x.Deck[1] = x.Deck[1], x.Deck[0] }),
			changedTable(x, func(x *impl.Table) { x.Deck = x.Deck[:51] }),
			changedTable(x, func(x *impl.Table) { x.Deck = append(x.Deck, 0) }),
			changedTable(x, func(x *impl.Table) { x.Deck = nil }),
			changedTable(x, func(x *impl.Table) { x.Seals = other.seals }),
			changedTable(x, func(x *impl.Table) { x.Seals[0]++ }),
			changedTable(x, func(x *impl.Table) { x.Seals = nil }),
			{On: true},
			{},
		} {
			if impl.IsFairDeck(changed, o.seeds, o.salts) {
				t.Errorf("%d: the deck of %v is fair", i, changed)
			}
		}
		// Only the seals and the deck count.
		if !impl.IsFairDeck(impl.Table{On: true, Seals: o.seals, Deck: x.Deck}, o.seeds, o.salts) {
			t.Errorf("without a game the deck %v is not fair", x.Deck)
		}
	}
	if impl.IsFairDeck(impl.Table{On: true, Deck: []int{}}, nil, nil) {
		t.Errorf("a deck without cards is fair")
	}
}

// Of several faults, the first one counts.
func TestOrderOfFaults(t *testing.T) {
	faults := []struct {
		name   string
		change func(x *impl.Table)
	}{
		{"cards", func(x *impl.Table) { x.Game.Stock = x.Game.Stock[1:] }},
		{"record", func(x *impl.Table) { x.Record = append(x.Record, -1) }},
		{"sheet", func(x *impl.Table) { x.Sheet = [][]int{{1, 2}} }},
		{"table", func(x *impl.Table) { x.Seals = nil }},
	}
	for chosen := range 16 {
		x, want := easyTable(), ""
		for i := 3; i >= 0; i-- {
			if chosen>>i&1 == 1 {
				faults[i].change(&x)
				want = faults[i].name
			}
		}
		if got := impl.FaultOf(x); got != want {
			t.Errorf("FaultOf(%v) is %q, not %q", x, got, want)
		}
		checkAudit(t, x)
	}
	if got := impl.FaultOf(impl.Table{}); got != "sheet" {
		t.Errorf("the fault of no table is %q", got)
	}
}

func TestAuditOfNoTable(t *testing.T) {
	random := numbers{499}
	met := map[string]int{}
	tables := []impl.Table{easyTable(), newTable(t, easyRules())}
	for range 10 {
		tables = append(tables, random.someTable(t))
	}
	for _, x := range tables {
		for _, changed := range changedTables(x) {
			checkAudit(t, changed)
			met[impl.FaultOf(changed)]++
		}
	}
	if len(met) != 4 || met[""] > 0 {
		t.Errorf("the faults are %v", met)
	}
}

// Promise 36: whatever happens at a table, at every moment the audit finds no fault.
func TestAllPromisesHoldAtEveryMoment(t *testing.T) {
	random := numbers{503}
	moments := 0
	for range 30 {
		r := random.someRules()
		r.Limit = 1 + r.Limit%30
		x := newTable(t, r)
		for _, e := range random.someHistory(x) {
			x, _ = impl.ApplyEvent(x, e)
			if got := impl.FaultOf(x); got != "" || !impl.NothingLost(x) || !impl.IsRecorded(x) || !impl.IsZeroSum(x) {
				t.Fatalf("FaultOf(%v) is %q", x, got)
			}
			moments++
		}
		x, o := random.dealtTable(t, r)
		if x = tableAtEnd(x, random.someKinds()); !impl.IsFairDeck(x, o.seeds, o.salts) || impl.FaultOf(x) != "" {
			t.Errorf("the deck of %v is not fair", x)
		}
	}
	if moments < 500 {
		t.Errorf("%d moments are too few", moments)
	}
}

func TestAuditKeepsArguments(t *testing.T) {
	random := numbers{509}
	x, o := random.dealtTable(t, easyRules())
	for _, x := range []impl.Table{{}, x, easyTable(), newTable(t, easyRules())} {
		keepsTable(t, "FaultOf and others", x, func(x impl.Table) impl.Table {
			impl.NothingLost(x)
			impl.IsRecorded(x)
			impl.IsZeroSum(x)
			impl.FaultOf(x)
			impl.IsFairDeck(x, o.seeds, o.salts)
			return impl.Table{}
		})
	}
	keepsRows(t, "IsFairDeck", [][]int{o.seeds, o.salts}, func(rows [][]int) [][]int {
		impl.IsFairDeck(x, rows[0], rows[1])
		return nil
	})
}
