package tests

import (
	"math"
	"slices"
	"testing"

	"loop.example/g03010/impl"
)

// slowTableStep lets a change of a valid table succeed if it gives a valid table.
func slowTableStep(x impl.Table, change func(x *impl.Table) bool) (impl.Table, bool) {
	next := cloneTable(x)
	if !slowIsTable(x) || !change(&next) || !slowIsTable(next) {
		return cloneTable(x), false
	}
	return next, true
}

func slowStepSeal(x impl.Table, seal int) (impl.Table, bool) {
	return slowTableStep(x, func(x *impl.Table) bool {
		x.Seals = append(x.Seals, seal)
		return !x.On
	})
}

func slowStepDeal(x impl.Table, seeds []int, salts []int) (impl.Table, bool) {
	return slowTableStep(x, func(x *impl.Table) bool {
		if x.On || len(x.Seals) != x.Rules.Players || len(seeds) != len(x.Seals) || len(salts) != len(x.Seals) {
			return false
		}
		for who, seal := range x.Seals {
			if seeds[who] < 0 || seeds[who] > greatestSeed || salts[who] < 0 || salts[who] > greatestSeed || slowHash([]int{who, seeds[who], salts[who]}) != seal {
				return false
			}
		}
		x.On, x.Deck = true, slowShuffled(wholeDeck(), slowJointSeed(seeds))
		x.Game, _ = slowNewGame(x.Rules, x.Deck)
		return true
	})
}

func slowStepMove(x impl.Table, move int) (impl.Table, bool) {
	return slowTableStep(x, func(x *impl.Table) bool {
		next, ok := slowReplayMove(x.Game, move)
		x.Game, x.Record = next, append(x.Record, move)
		return ok && x.On
	})
}

func slowStepPlay(x impl.Table, c int) (impl.Table, bool) {
	if c < 0 {
		return cloneTable(x), false
	}
	return slowStepMove(x, c)
}

func slowStepTake(x impl.Table) (impl.Table, bool) {
	return slowStepMove(x, -1)
}

func slowStepSettle(x impl.Table) (impl.Table, bool) {
	return slowTableStep(x, func(x *impl.Table) bool {
		ended := x.On && slowIsEnded(x.Game)
		x.Sheet = append(x.Sheet, slowSettled(x.Game))
		x.Seals, x.Deck, x.Record, x.Game, x.On = nil, nil, nil, impl.Game{}, false
		return ended
	})
}

func slowStepRules(x impl.Table, text string) (impl.Table, bool) {
	return slowTableStep(x, func(x *impl.Table) bool {
		r, ok := impl.ParseRules(text)
		if r.Players != x.Rules.Players {
			x.Seals, x.Sheet = nil, nil
		}
		x.Rules = r
		return ok && !x.On
	})
}

// checkSteps tries every kind of step.
func checkSteps(t *testing.T, x impl.Table, o opening) {
	t.Helper()
	check := func(name string, got impl.Table, ok bool, want impl.Table, may bool) {
		t.Helper()
		if ok != may || !sameTables(got, want) {
			t.Errorf("%s of %v is %v, %t, not %v, %t", name, x, got, ok, want, may)
		}
		if ok && !impl.IsTable(got) || !ok && !sameTables(got, x) {
			t.Errorf("%s of %v leaves %v", name, x, got)
		}
	}
	for _, seal := range []int{0, 77, -1, math.MinInt, math.MaxInt} {
		got, ok := impl.StepSeal(x, seal)
		want, may := slowStepSeal(x, seal)
		check("StepSeal", got, ok, want, may)
	}
	for _, p := range []opening{o, {}, {seeds: o.seeds}, {seeds: make([]int, len(x.Seals)), salts: make([]int, len(x.Seals))}} {
		got, ok := impl.StepDeal(x, p.seeds, p.salts)
		want, may := slowStepDeal(x, p.seeds, p.salts)
		check("StepDeal", got, ok, want, may)
	}
	for c := -2; c <= 53; c++ {
		got, ok := impl.StepPlay(x, c)
		want, may := slowStepPlay(x, c)
		check("StepPlay", got, ok, want, may)
	}
	got, ok := impl.StepTake(x)
	want, may := slowStepTake(x)
	check("StepTake", got, ok, want, may)
	got, ok = impl.StepSettle(x)
	want, may = slowStepSettle(x)
	check("StepSettle", got, ok, want, may)
	for _, text := range []string{"", "-", "players=9", easyText, impl.RulesText(x.Rules), "players=2 each=3 match=suit wild=- skip=- take=1 limit=9"} {
		got, ok := impl.StepRules(x, text)
		want, may := slowStepRules(x, text)
		check("StepRules", got, ok, want, may)
	}
}

func mustStep(t *testing.T) func(x impl.Table, ok bool) impl.Table {
	return func(x impl.Table, ok bool) impl.Table {
		t.Helper()
		if !ok {
			t.Fatalf("a step of %v does not succeed", x)
		}
		return x
	}
}

func TestStepSeal(t *testing.T) {
	for players := 2; players <= 6; players++ {
		x := newTable(t, smallRules(players))
		x.Sheet = [][]int{make([]int, players)}
		for who := range players {
			seal := shuffleSeeds[who%len(shuffleSeeds)]
			next, ok := impl.StepSeal(x, seal)
			want := cloneTable(x)
			want.Seals = append(want.Seals, seal)
			if !ok || !sameTables(next, want) || impl.IsSealed(next) != (who == players-1) {
				t.Fatalf("StepSeal(%v, %d) is %v, %t", x, seal, next, ok)
			}
			x = next
		}
		if next, ok := impl.StepSeal(x, 9); ok || !sameTables(next, x) {
			t.Errorf("one seal too many: %v, %t", next, ok)
		}
	}
	if next, ok := impl.StepSeal(easyTable(), 4); ok || !sameTables(next, easyTable()) {
		t.Errorf("a seal during a game: %v, %t", next, ok)
	}
}

func TestDealsBeforeAllHaveSealed(t *testing.T) {
	random := numbers{401}
	for players := 2; players <= 6; players++ {
		o := random.someOpening(players)
		x := newTable(t, smallRules(players))
		for who := range players {
			for _, p := range []opening{o, {seeds: o.seeds[:who], salts: o.salts[:who]}} {
				if next, ok := impl.StepDeal(x, p.seeds, p.salts); ok || !sameTables(next, x) {
					t.Errorf("with %d seals of %d players, StepDeal is %v, %t", who, players, next, ok)
				}
			}
			checkSteps(t, x, o)
			x, _ = impl.StepSeal(x, o.seals[who])
		}
		next, ok := impl.StepDeal(x, o.seeds, o.salts)
		deck := slowShuffled(wholeDeck(), slowJointSeed(o.seeds))
		g, _ := slowNewGame(x.Rules, deck)
		if !ok || !next.On || !slices.Equal(next.Deck, deck) || len(next.Record) != 0 || !sameGames(next.Game, g) || !slices.Equal(next.Seals, o.seals) {
			t.Errorf("when all have sealed, StepDeal is %v, %t", next, ok)
		}
		if again, ok := impl.StepDeal(next, o.seeds, o.salts); ok || !sameTables(again, next) {
			t.Errorf("during a game, StepDeal is %v, %t", again, ok)
		}
	}
}

func TestDealsThatAreNotOpened(t *testing.T) {
	random := numbers{409}
	o := random.someOpening(3)
	x := newTable(t, easyRules())
	x.Seals = o.seals
	check := func(seeds []int, salts []int) {
		t.Helper()
		if next, ok := impl.StepDeal(x, seeds, salts); ok || !sameTables(next, x) {
			t.Errorf("StepDeal with %v and %v is %v, %t", seeds, salts, next, ok)
		}
	}
	check(nil, nil)
	check(o.seeds, nil)
	check(nil, o.salts)
	check(o.seeds[:2], o.salts[:2])
	check(append(slices.Clone(o.seeds), 1), append(slices.Clone(o.salts), 1))
	check(o.salts, o.seeds)
	for who := range 3 {
		for _, n := range []int{-1, 1, cryptoModulus, -cryptoModulus} {
			p := o.clone()
			p.seeds[who] += n
			check(p.seeds, p.salts)
			p = o.clone()
			p.salts[who] += n
			check(p.seeds, p.salts)
		}
	}
	mustStep(t)(impl.StepDeal(x, o.seeds, o.salts))
}

func TestStepPlayAndTake(t *testing.T) {
	x := newTable(t, easyRules())
	x.Seals, x.On, x.Deck, x.Sheet = []int{1, 2, 3}, true, wholeDeck(), [][]int{{3, -3, 0}}
	x.Game = newGame(t, easyRules(), wholeDeck())
	if got := mustStep(t)(impl.StepPlay(x, 6)); !sameTables(got, easyTable()) {
		t.Errorf("StepPlay is %v", got)
	}
	record := []int{6, -1, 5, 12, -1}
	for i, move := range record {
		if move < 0 {
			x = mustStep(t)(impl.StepTake(x))
		} else {
			x = mustStep(t)(impl.StepPlay(x, move))
		}
		if g, _ := impl.Replayed(newGame(t, easyRules(), wholeDeck()), record[:i+1]); !sameGames(x.Game, g) || !slices.Equal(x.Record, record[:i+1]) || len(x.Sheet) != 1 || !x.On {
			t.Errorf("after %d moves, the table is %v", i+1, x)
		}
	}
	for _, c := range noCards {
		if got, ok := impl.StepPlay(x, c); ok || !sameTables(got, x) {
			t.Errorf("StepPlay of %d is %v, %t", c, got, ok)
		}
	}
}

// Without a game, nothing can be played, taken or settled.
func TestStepsWithoutAGame(t *testing.T) {
	random := numbers{419}
	for range 60 {
		x := random.offTable()
		for c := -1; c <= 52; c++ {
			if got, ok := impl.StepPlay(x, c); ok || !sameTables(got, x) {
				t.Errorf("StepPlay(%v, %d) is %v, %t", x, c, got, ok)
			}
		}
		if got, ok := impl.StepTake(x); ok || !sameTables(got, x) {
			t.Errorf("StepTake(%v) is %v, %t", x, got, ok)
		}
		if got, ok := impl.StepSettle(x); ok || !sameTables(got, x) {
			t.Errorf("StepSettle(%v) is %v, %t", x, got, ok)
		}
	}
}

// tableAtEnd plays a game with these kinds of players to its end.
func tableAtEnd(x impl.Table, kinds []int) impl.Table {
	next := cloneTable(x)
	next.Record = append(next.Record, impl.RecordOut(x.Game, kinds)...)
	next.Game = impl.PlayOut(x.Game, kinds)
	return next
}

func TestStepSettle(t *testing.T) {
	random := numbers{421}
	won, drawn := 0, 0
	for range 60 {
		x := random.onTable(t)
		if _, ok := impl.StepSettle(x); ok != impl.IsEnded(x.Game) {
			t.Errorf("StepSettle(%v) is %t", x, ok)
		}
		x = tableAtEnd(x, []int{0, 1, 2, 0, 1, 2})
		got := mustStep(t)(impl.StepSettle(x))
		want := impl.Table{Rules: x.Rules, Sheet: append(cloneRows(x.Sheet), slowSettled(x.Game))}
		if !sameTables(got, want) {
			t.Errorf("StepSettle(%v) is %v, not %v", x, got, want)
		}
		if impl.Winner(x.Game) >= 0 {
			won++
		} else {
			drawn++
		}
		if len(x.Record) < 50 {
			checkSteps(t, x, opening{})
		}
	}
	if won < 10 || drawn < 5 {
		t.Errorf("%d games were won, and %d drawn", won, drawn)
	}
}

// A sheet has room for 50 rounds.
func TestStepSettleOnAFullSheet(t *testing.T) {
	random := numbers{431}
	for _, size := range []int{0, 48, 49, 50} {
		x, _ := random.dealtTable(t, oneEach(2, 3))
		x.Sheet = random.someSheet(2, size)
		x = tableAtEnd(x, nil)
		got, ok := impl.StepSettle(x)
		if want, may := slowStepSettle(x); ok != (size < 50) || ok != may || !sameTables(got, want) {
			t.Errorf("with %d rounds, StepSettle is %v, %t", size, got, ok)
		}
	}
}

func TestStepRules(t *testing.T) {
	x := newTable(t, easyRules())
	x.Seals, x.Sheet = []int{7, 8, 9}, [][]int{{3, -3, 0}}
	for _, c := range []struct {
		text  string
		keeps bool
	}{
		{easyText, true}, {"players=3 each=8 match=suit wild=- skip=r take=4 limit=9", true}, {"players=2 each=5 match=both wild=8 skip=A take=1 limit=200", false}, {"players=6 each=1 match=rank wild=- skip=- take=1 limit=1", false},
	} {
		got := mustStep(t)(impl.StepRules(x, c.text))
		r, _ := impl.ParseRules(c.text)
		want := impl.Table{Rules: r}
		if c.keeps {
			want.Seals, want.Sheet = x.Seals, x.Sheet
		}
		if !sameTables(got, want) {
			t.Errorf("StepRules of %q is %v, not %v", c.text, got, want)
		}
	}
	for _, text := range []string{"", " ", "-", "players=3", "players=9 each=5 match=both wild=8 skip=A take=1 limit=200", easyText + " ", " " + easyText, "each=5 players=3 match=both wild=8 skip=A take=1 limit=200"} {
		if got, ok := impl.StepRules(x, text); ok || !sameTables(got, x) {
			t.Errorf("StepRules of %q is %v, %t", text, got, ok)
		}
	}
	if got, ok := impl.StepRules(easyTable(), easyText); ok || !sameTables(got, easyTable()) {
		t.Errorf("during a game, StepRules is %v, %t", got, ok)
	}
	if got, ok := impl.StepRules(impl.Table{}, easyText); ok || !isZeroTable(got) {
		t.Errorf("on no table, StepRules is %v, %t", got, ok)
	}
}

// allSteps has each kind of step, with the seeds of an opening and a card.
func allSteps(o opening, card int) map[string]func(x impl.Table) (impl.Table, bool) {
	return map[string]func(x impl.Table) (impl.Table, bool){
		"StepSeal":   func(x impl.Table) (impl.Table, bool) { return impl.StepSeal(x, 5) },
		"StepDeal":   func(x impl.Table) (impl.Table, bool) { return impl.StepDeal(x, o.seeds, o.salts) },
		"StepPlay":   func(x impl.Table) (impl.Table, bool) { return impl.StepPlay(x, card) },
		"StepTake":   impl.StepTake,
		"StepSettle": impl.StepSettle,
		"StepRules":  func(x impl.Table) (impl.Table, bool) { return impl.StepRules(x, easyText) },
	}
}

func TestStepsOfNoTable(t *testing.T) {
	random := numbers{433}
	o := random.someOpening(3)
	sealed := newTable(t, easyRules())
	sealed.Seals = o.seals
	ended := tableAtEnd(easyTable(), nil)
	for i, x := range slices.Concat(changedTables(easyTable()), changedTables(sealed), changedTables(ended)) {
		for name, f := range allSteps(o, 5) {
			if got, ok := f(x); ok || !sameTables(got, x) {
				t.Errorf("%d: %s of %v is %v, %t", i, name, x, got, ok)
			}
		}
	}
}

// someStep takes one of the steps, most of them ones that can succeed.
func (n *numbers) someStep(x impl.Table, o opening) (impl.Table, bool) {
	kind := n.below(20)
	switch {
	case !x.On && kind < 16 && len(x.Seals) == x.Rules.Players:
		return impl.StepDeal(x, o.seeds, o.salts)
	case !x.On && kind < 16:
		return impl.StepSeal(x, o.seals[len(x.Seals)])
	case x.On && kind < 2:
		return impl.StepTake(x)
	case x.On && kind < 16 && !impl.IsEnded(x.Game):
		if c := impl.ChoiceOf(x.Game, n.below(3)); c >= 0 {
			return impl.StepPlay(x, c)
		}
		return impl.StepTake(x)
	case kind < 17:
		return impl.StepSettle(x)
	case kind < 18:
		return impl.StepRules(x, impl.RulesText(n.someRules()))
	case kind < 19:
		return impl.StepSeal(x, n.below(cryptoModulus))
	}
	return impl.StepPlay(x, n.below(54)-1)
}

// Promise 34: every step leaves a valid table; one that does not succeed changes nothing.
func TestStepsKeepTablesValid(t *testing.T) {
	random := numbers{439}
	succeeded, settled := 0, 0
	for range 30 {
		r := random.someRules()
		r.Limit = 1 + r.Limit%40
		x := newTable(t, r)
		o := random.someOpening(6)
		for range 80 {
			if len(x.Seals) == 0 {
				o = random.someOpening(x.Rules.Players)
			}
			next, ok := random.someStep(x, o)
			if !impl.IsTable(next) || !slowIsTable(next) {
				t.Fatalf("a step of %v makes %v, %t", x, next, ok)
			}
			if !ok && !sameTables(next, x) {
				t.Fatalf("a step that fails makes %v of %v", next, x)
			}
			if ok {
				succeeded++
			}
			if len(next.Sheet) > len(x.Sheet) {
				settled++
			}
			if random.below(25) == 0 {
				checkSteps(t, x, o)
			}
			x = next
		}
	}
	if succeeded < 1000 || settled < 20 {
		t.Errorf("%d steps succeeded, and %d games were settled", succeeded, settled)
	}
}

// Every step of a game that fills a long record succeeds.
func TestStepsOfALongGame(t *testing.T) {
	random := numbers{443}
	x, _ := random.dealtTable(t, impl.Rules{Players: 6, Each: 8, SameSuit: true, Take: 1, Limit: 100})
	for moves := range 100 {
		if impl.IsEnded(x.Game) {
			break
		}
		c := impl.ChoiceOf(x.Game, moves%4)
		if c >= 0 {
			x = mustStep(t)(impl.StepPlay(x, c))
		} else {
			x = mustStep(t)(impl.StepTake(x))
		}
		if len(x.Record) != moves+1 || x.Game.Moves != moves+1 {
			t.Fatalf("after %d moves, the record is %v", moves+1, x.Record)
		}
	}
	mustStep(t)(impl.StepSettle(x))
}

func TestStepsKeepArguments(t *testing.T) {
	random := numbers{449}
	x, o := random.dealtTable(t, easyRules())
	sealed := impl.Table{Rules: x.Rules, Seals: x.Seals, Sheet: x.Sheet}
	unsealed := impl.Table{Rules: x.Rules, Seals: x.Seals[:2], Sheet: x.Sheet}
	tables := []impl.Table{{}, x, sealed, unsealed, random.played(x, 9), tableAtEnd(x, nil)}
	for _, x := range append(tables, changedTables(easyTable())[:50]...) {
		for name, f := range allSteps(o, impl.ChoiceOf(x.Game, 0)) {
			keepsTable(t, name, x, func(x impl.Table) impl.Table {
				next, _ := f(x)
				return next
			})
		}
	}
	keepsRows(t, "StepDeal", [][]int{o.seeds, o.salts}, func(rows [][]int) [][]int {
		next, _ := impl.StepDeal(sealed, rows[0], rows[1])
		return rowsOfTable(next)
	})
}
