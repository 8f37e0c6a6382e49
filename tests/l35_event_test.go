package tests

import (
	"math"
	"slices"
	"testing"

	"loop.example/g03010/impl"
)

func cloneEvents(list []impl.Event) []impl.Event {
	copies := []impl.Event{}
	for _, e := range list {
		e.Seeds, e.Salts = slices.Clone(e.Seeds), slices.Clone(e.Salts)
		copies = append(copies, e)
	}
	return copies
}

func sameEvents(a []impl.Event, b []impl.Event) bool {
	return slices.EqualFunc(a, b, func(x impl.Event, y impl.Event) bool {
		return x.Kind == y.Kind && x.N == y.N && slices.Equal(x.Seeds, y.Seeds) && slices.Equal(x.Salts, y.Salts)
	})
}

func slowApply(x impl.Table, e impl.Event) (impl.Table, bool) {
	switch e.Kind {
	case 1:
		return slowStepSeal(x, e.N)
	case 2:
		return slowStepDeal(x, e.Seeds, e.Salts)
	case 3:
		return slowStepPlay(x, e.N)
	case 4:
		return slowStepTake(x)
	case 5:
		return slowStepSettle(x)
	}
	return cloneTable(x), false
}

func slowRun(x impl.Table, list []impl.Event) impl.Table {
	next := cloneTable(x)
	for _, e := range list {
		next, _ = slowApply(next, e)
	}
	return next
}

// checkEvent applies an event and returns what it makes of the table.
func checkEvent(t *testing.T, x impl.Table, e impl.Event) (impl.Table, bool) {
	t.Helper()
	got, ok := impl.ApplyEvent(x, e)
	if want, may := slowApply(x, e); ok != may || !sameTables(got, want) {
		t.Errorf("ApplyEvent(%v, %v) is %v, %t, not %v", x, e, got, ok, want)
	}
	return got, ok
}

// otherKinds are numbers of no kind of events.
var otherKinds = []int{0, -1, 6, 7, 99, -5, 1<<32 + 1, math.MinInt, math.MaxInt}

func TestEventName(t *testing.T) {
	if !slices.Equal([]int{impl.EvSeal, impl.EvDeal, impl.EvPlay, impl.EvTake, impl.EvSettle}, []int{1, 2, 3, 4, 5}) {
		t.Errorf("other kinds of events")
	}
	for i, want := range []string{"seal", "deal", "play", "take", "settle"} {
		if got := impl.EventName(i + 1); got != want {
			t.Errorf("the kind %d is %q, not %q", i+1, got, want)
		}
	}
	for _, kind := range otherKinds {
		if got := impl.EventName(kind); got != "" {
			t.Errorf("the kind %d is %q", kind, got)
		}
	}
}

// historyOf returns the events of a game of two players with one card each and two moves, with some among them that do not succeed, and a letter for each: y if it succeeds.
func historyOf(r impl.Rules) ([]impl.Event, string) {
	list := impl.DealEvents(r, []int{1, 2}, 5)
	take, settle := impl.Event{Kind: impl.EvTake}, impl.Event{Kind: impl.EvSettle}
	return append(list, take, impl.Event{Kind: impl.EvPlay, N: 99}, settle, take, take, settle, settle, impl.Event{Kind: 6}, impl.Event{}), "yyyynnynynnn"
}

func TestApplyEvent(t *testing.T) {
	r := impl.Rules{Players: 2, Each: 1, SameSuit: true, SameRank: true, Take: 1, Limit: 2}
	list, want := historyOf(r)
	x := newTable(t, r)
	for i, e := range list {
		next, ok := checkEvent(t, x, e)
		if ok != (want[i] == 'y') {
			t.Errorf("the event %d is %t", i, ok)
		}
		x = next
	}
	if len(x.Sheet) != 1 || x.On {
		t.Errorf("after all events, the table is %v", x)
	}
}

func TestEventsOfNoKind(t *testing.T) {
	random := numbers{457}
	tables := []impl.Table{{}, easyTable(), newTable(t, easyRules()), tableAtEnd(easyTable(), nil)}
	for range 20 {
		tables = append(tables, random.someTable(t))
	}
	for _, x := range tables {
		for _, kind := range otherKinds {
			e := impl.Event{Kind: kind, N: 6, Seeds: []int{1}, Salts: []int{2}}
			if got, ok := checkEvent(t, x, e); ok || !sameTables(got, x) {
				t.Errorf("an event of the kind %d makes %v, %t", kind, got, ok)
			}
			if got := impl.RunEvents(x, []impl.Event{e, e}); !sameTables(got, x) {
				t.Errorf("events of the kind %d make %v", kind, got)
			}
		}
	}
}

// The fields that an event does not need change nothing.
func TestFieldsThatAreNotNeeded(t *testing.T) {
	random := numbers{461}
	dealt, o := random.dealtTable(t, easyRules())
	sealed := impl.Table{Rules: dealt.Rules, Seals: dealt.Seals[:2]}
	for _, x := range []impl.Table{dealt, sealed, tableAtEnd(dealt, nil)} {
		for kind := 1; kind <= 5; kind++ {
			for _, n := range []int{-1, 0, 6, 51, 77} {
				for _, p := range []opening{o, {}} {
					checkEvent(t, x, impl.Event{Kind: kind, N: n, Seeds: p.seeds, Salts: p.salts})
				}
			}
		}
	}
}

func TestRunEvents(t *testing.T) {
	r := impl.Rules{Players: 2, Each: 1, SameSuit: true, SameRank: true, Take: 1, Limit: 2}
	list, _ := historyOf(r)
	x := newTable(t, r)
	for size := range len(list) + 1 {
		if got, want := impl.RunEvents(x, list[:size]), slowRun(x, list[:size]); !sameTables(got, want) {
			t.Errorf("after %d events, the table is %v, not %v", size, got, want)
		}
	}
	if got := impl.RunEvents(x, nil); !sameTables(got, x) {
		t.Errorf("without events, the table is %v", got)
	}
	for _, x := range append(changedTables(easyTable()), impl.Table{}) {
		if got := impl.RunEvents(x, list); !sameTables(got, x) {
			t.Errorf("of no table, %v is made", got)
		}
	}
}

// someHistory returns events that make some games at a table, with others among them, at random.
func (n *numbers) someHistory(x impl.Table) []impl.Event {
	list := []impl.Event{}
	for range 1 + n.below(3) {
		seeds := []int{}
		for range x.Rules.Players {
			seeds = append(seeds, n.below(greatestSeed+1))
		}
		list = append(list, impl.DealEvents(x.Rules, seeds, n.below(greatestSeed+1))...)
		current := impl.RunEvents(x, list)
		for current.On && !impl.IsEnded(current.Game) {
			e := impl.Event{Kind: impl.EvTake}
			if c := impl.ChoiceOf(current.Game, n.below(4)); c >= 0 {
				e = impl.Event{Kind: impl.EvPlay, N: c}
			}
			if n.below(6) == 0 {
				e = impl.Event{Kind: n.below(8) - 1, N: n.below(54) - 1, Seeds: seeds}
			}
			list = append(list, e)
			current, _ = impl.ApplyEvent(current, e)
		}
		list = append(list, impl.Event{Kind: impl.EvSettle})
	}
	return list
}

// Promise 35: a history can be divided anywhere: its parts, one after the other, make the same table as the whole.
func TestHistoriesCanBeDivided(t *testing.T) {
	random := numbers{463}
	events, games := 0, 0
	for range 40 {
		r := random.someRules()
		r.Limit = 1 + r.Limit%30
		x := newTable(t, r)
		list := random.someHistory(x)
		whole := impl.RunEvents(x, list)
		for _, at := range []int{0, 1, random.below(len(list)), random.below(len(list)), len(list)} {
			if got := impl.RunEvents(impl.RunEvents(x, list[:at]), list[at:]); !sameTables(got, whole) {
				t.Errorf("divided at %d, the history makes %v, not %v", at, got, whole)
			}
		}
		current := x
		for _, e := range list {
			current, _ = impl.ApplyEvent(current, e)
		}
		if !sameTables(current, whole) || !impl.IsTable(whole) || !sameTables(whole, slowRun(x, list)) {
			t.Errorf("one by one, the events make %v, not %v", current, whole)
		}
		events += len(list)
		games += len(whole.Sheet)
	}
	if events < 500 || games < 40 {
		t.Errorf("%d events and %d games are too few", events, games)
	}
}

func TestCountEvents(t *testing.T) {
	list := []impl.Event{{Kind: 1}, {Kind: 4, N: 1}, {}, {Kind: 4}, {Kind: -7}, {Kind: 6}, {Kind: 4}, {Kind: math.MaxInt}}
	for _, c := range []struct{ kind, want int }{
		{1, 1}, {2, 0}, {3, 0}, {4, 3}, {5, 0}, {0, 1}, {6, 1}, {-7, 1}, {7, 0}, {math.MaxInt, 1}, {math.MinInt, 0},
	} {
		if got := impl.CountEvents(list, c.kind); got != c.want {
			t.Errorf("of the kind %d there are %d events, not %d", c.kind, got, c.want)
		}
		if got := impl.CountEvents(nil, c.kind); got != 0 {
			t.Errorf("of no events, %d are of the kind %d", got, c.kind)
		}
	}
}

func TestDealEvents(t *testing.T) {
	random := numbers{467}
	for players := 2; players <= 6; players++ {
		for _, salt := range []int{0, 5, greatestSeed, greatestSeed + 1, -1, math.MinInt, math.MaxInt} {
			o := random.someOpening(players)
			got := impl.DealEvents(smallRules(players), o.seeds, salt)
			want := []impl.Event{}
			for who, seed := range o.seeds {
				want = append(want, impl.Event{Kind: 1, N: slowHash([]int{who, seed, salt})})
			}
			want = append(want, impl.Event{Kind: 2, Seeds: o.seeds, Salts: slices.Repeat([]int{salt}, players)})
			if !sameEvents(got, want) {
				t.Errorf("DealEvents(%v, %d) is %v, not %v", o.seeds, salt, got, want)
			}
			x := impl.RunEvents(newTable(t, smallRules(players)), got)
			if x.On != (salt >= 0 && salt <= greatestSeed) || len(x.Seals) != players {
				t.Errorf("DealEvents with the salt %d make %v", salt, x)
			}
			if x.On && !slices.Equal(x.Deck, slowShuffled(wholeDeck(), slowJointSeed(o.seeds))) {
				t.Errorf("DealEvents of %v deal %v", o.seeds, x.Deck)
			}
		}
	}
}

func TestNoDealEvents(t *testing.T) {
	for _, r := range append(changedRules(easyRules()), impl.Rules{}) {
		for _, seeds := range [][]int{nil, {1}, {1, 2}, {1, 2, 3}, make([]int, 7)} {
			if got := impl.DealEvents(r, seeds, 5); len(got) != 0 {
				t.Errorf("DealEvents(%v, %v) is %v", r, seeds, got)
			}
		}
	}
	for _, seeds := range [][]int{nil, {}, {1}, {1, 2}, {1, 2, 3, 4}} {
		if got := impl.DealEvents(easyRules(), seeds, 5); len(got) != 0 {
			t.Errorf("DealEvents of %v is %v", seeds, got)
		}
	}
	if got := impl.DealEvents(easyRules(), []int{-1, math.MaxInt, math.MinInt}, 5); len(got) != 4 {
		t.Errorf("DealEvents of odd seeds is %v", got)
	}
}

func TestEventsKeepArguments(t *testing.T) {
	random := numbers{479}
	x, o := random.dealtTable(t, easyRules())
	sealed := impl.Table{Rules: x.Rules, Seals: x.Seals, Sheet: x.Sheet}
	for _, x := range []impl.Table{{}, x, sealed, tableAtEnd(x, nil)} {
		for kind := range 7 {
			e := impl.Event{Kind: kind, N: impl.ChoiceOf(x.Game, 0), Seeds: o.seeds, Salts: o.salts}
			keepsTable(t, "ApplyEvent", x, func(x impl.Table) impl.Table {
				next, _ := impl.ApplyEvent(x, e)
				return next
			})
			keepsTable(t, "RunEvents", x, func(x impl.Table) impl.Table { return impl.RunEvents(x, []impl.Event{e, e}[:kind%3]) })
		}
	}
	list := []impl.Event{{Kind: 2, Seeds: o.seeds, Salts: o.salts}, {Kind: 4}, {Kind: 9}}
	before := cloneEvents(list)
	impl.RunEvents(sealed, list)
	impl.CountEvents(list, 4)
	if !sameEvents(list, before) {
		t.Errorf("the events became %v", list)
	}
	keepsRows(t, "RunEvents", [][]int{o.seeds, o.salts}, func(rows [][]int) [][]int {
		return rowsOfTable(impl.RunEvents(sealed, []impl.Event{{Kind: 2, Seeds: rows[0], Salts: rows[1]}}))
	})
	keepsRows(t, "DealEvents", [][]int{{1, 2, 3}, easyRules().Wild}, func(rows [][]int) [][]int {
		r := easyRules()
		r.Wild = rows[1]
		deal := impl.DealEvents(r, rows[0], 5)[3]
		return [][]int{deal.Seeds, deal.Salts}
	})
}
