package tests

import (
	"math"
	"slices"
	"testing"

	"loop.example/g03010/impl"
)

// easyRules are the rules of EasyRules, written down once more.
func easyRules() impl.Rules {
	return impl.Rules{Players: 3, Each: 5, SameSuit: true, SameRank: true, Wild: []int{206}, Skip: []int{212}, Take: 1, Limit: 200}
}

func cloneRules(r impl.Rules) impl.Rules {
	r.Wild = slices.Clone(r.Wild)
	r.Skip = slices.Clone(r.Skip)
	return r
}

func sameRules(a impl.Rules, b impl.Rules) bool {
	return a.Players == b.Players && a.Each == b.Each && a.SameSuit == b.SameSuit && a.SameRank == b.SameRank && slices.Equal(a.Wild, b.Wild) && slices.Equal(a.Skip, b.Skip) && a.Take == b.Take && a.Limit == b.Limit
}

func isZeroRules(r impl.Rules) bool {
	return sameRules(r, impl.Rules{})
}

func slowIsMaybePattern(p []int) bool {
	_, ok := slowMatches(p, 0)
	return ok || len(p) == 0
}

func slowIsRules(r impl.Rules) bool {
	return r.Players >= 2 && r.Players <= 6 && r.Each >= 1 && r.Each <= 8 && (r.SameSuit || r.SameRank) && slowIsMaybePattern(r.Wild) && slowIsMaybePattern(r.Skip) && r.Take >= 1 && r.Take <= 4 && r.Limit >= 1 && r.Limit <= 400
}

func slowFits(r impl.Rules, top int, c int) bool {
	wild, _ := slowMatches(r.Wild, c)
	return wild || r.SameSuit && top/13 == c/13 || r.SameRank && top%13 == c%13
}

// someRules returns rules that are valid, now and then without a pattern.
func (n *numbers) someRules() impl.Rules {
	r := impl.Rules{Players: 2 + n.below(5), Each: 1 + n.below(8), Take: 1 + n.below(4), Limit: 1 + n.below(400)}
	match := n.below(3)
	r.SameSuit, r.SameRank = match != 1, match != 0
	if n.below(3) > 0 {
		r.Wild = n.somePattern(1 + n.below(12))
	}
	if n.below(3) > 0 {
		r.Skip = n.somePattern(1 + n.below(12))
	}
	return r
}

// changedRules returns rules that are as r, but for one thing that makes them invalid.
func changedRules(r impl.Rules) []impl.Rules {
	list := []impl.Rules{{}}
	change := func(f func(r *impl.Rules)) {
		changed := cloneRules(r)
		f(&changed)
		list = append(list, changed)
	}
	for _, n := range []int{math.MinInt, -1, 0, 1, 7, 8, math.MaxInt} {
		change(func(r *impl.Rules) { r.Players = n })
	}
	for _, n := range []int{math.MinInt, -1, 0, 9, 10, math.MaxInt} {
		change(func(r *impl.Rules) { r.Each = n })
	}
	for _, n := range []int{math.MinInt, -1, 0, 5, 6, math.MaxInt} {
		change(func(r *impl.Rules) { r.Take = n })
	}
	for _, n := range []int{math.MinInt, -1, 0, 401, 402, math.MaxInt} {
		change(func(r *impl.Rules) { r.Limit = n })
	}
	change(func(r *impl.Rules) { r.SameSuit, r.SameRank = false, false })
	for _, p := range append(slices.Clone(badPatterns), chain(21)) {
		if len(p) > 0 {
			change(func(r *impl.Rules) { r.Wild = p })
			change(func(r *impl.Rules) { r.Skip = p })
		}
	}
	return list
}

func TestIsRules(t *testing.T) {
	r := impl.Rules{Players: 2, Each: 1, SameSuit: true, Take: 1, Limit: 1}
	for _, change := range []func(r *impl.Rules){
		func(r *impl.Rules) {},
		func(r *impl.Rules) { r.Players = 6 },
		func(r *impl.Rules) { r.Each = 8 },
		func(r *impl.Rules) { r.SameSuit, r.SameRank = false, true },
		func(r *impl.Rules) { r.SameRank = true },
		func(r *impl.Rules) { r.Wild = []int{} },
		func(r *impl.Rules) { r.Wild = []int{red} },
		func(r *impl.Rules) { r.Wild = chain(20) },
		func(r *impl.Rules) { r.Skip = []int{} },
		func(r *impl.Rules) { r.Skip = []int{red, suit, and} },
		func(r *impl.Rules) { r.Skip = chain(20) },
		func(r *impl.Rules) { r.Take = 4 },
		func(r *impl.Rules) { r.Limit = 400 },
		func(r *impl.Rules) { r.Players, r.Each = 6, 8 },
	} {
		valid := cloneRules(r)
		change(&valid)
		if !impl.IsRules(valid) || !slowIsRules(valid) {
			t.Errorf("%v are no rules", valid)
		}
		for _, changed := range changedRules(valid) {
			if impl.IsRules(changed) || slowIsRules(changed) {
				t.Errorf("%v are rules", changed)
			}
		}
	}
}

// Nothing fits by rules that are none, and no card makes anybody miss a turn.
func TestFitsOnWithoutRules(t *testing.T) {
	always := impl.Rules{Players: 2, Each: 1, SameSuit: true, SameRank: true, Wild: []int{red, not, not}, Skip: []int{from}, Take: 1, Limit: 1}
	for _, r := range changedRules(always) {
		for top := range 52 {
			if got := impl.FitCount(r, top); got != 0 {
				t.Errorf("FitCount(%v, %d) is %d", r, top, got)
			}
			if impl.DoesSkip(r, top) {
				t.Errorf("DoesSkip(%v, %d) is true", r, top)
			}
			for c := range 52 {
				if impl.FitsOn(r, top, c) {
					t.Errorf("FitsOn(%v, %d, %d) is true", r, top, c)
				}
			}
		}
	}
}

func checkFits(t *testing.T, r impl.Rules) {
	t.Helper()
	for top := range 52 {
		count := 0
		for c := range 52 {
			want := slowFits(r, top, c)
			if got := impl.FitsOn(r, top, c); got != want {
				t.Errorf("FitsOn(%v, %d, %d) is %t", r, top, c, got)
			}
			if want && c != top {
				count++
			}
		}
		if got := impl.FitCount(r, top); got != count {
			t.Errorf("FitCount(%v, %d) is %d, not %d", r, top, got, count)
		}
		want, _ := slowMatches(r.Skip, top)
		if got := impl.DoesSkip(r, top); got != want {
			t.Errorf("DoesSkip(%v, %d) is %t", r, top, got)
		}
	}
}

func TestFitsOn(t *testing.T) {
	random := numbers{193}
	for _, r := range []impl.Rules{
		easyRules(),
		{Players: 2, Each: 1, SameSuit: true, Take: 1, Limit: 1},
		{Players: 2, Each: 1, SameRank: true, Take: 1, Limit: 1},
		{Players: 2, Each: 1, SameRank: true, Wild: []int{from}, Skip: []int{from, not}, Take: 1, Limit: 1},
		{Players: 6, Each: 8, SameSuit: true, Wild: []int{from, not}, Skip: []int{from}, Take: 4, Limit: 400},
	} {
		checkFits(t, r)
	}
	for range 60 {
		checkFits(t, random.someRules())
	}
	for _, c := range []struct {
		top, card string
		want      bool
	}{
		{"2c", "7c", true}, {"2c", "2d", true}, {"2c", "3d", false}, {"2c", "8s", true}, {"8c", "9d", false}, {"8c", "8d", true}, {"2c", "2c", true}, {"Ah", "Kh", true}, {"Ah", "Ks", false},
	} {
		if got := impl.FitsOn(easyRules(), hand(c.top)[0], hand(c.card)[0]); got != c.want {
			t.Errorf("on %s, %s fits: %t", c.top, c.card, got)
		}
	}
}

func TestFitsOnNoCards(t *testing.T) {
	all := impl.Rules{Players: 2, Each: 1, SameSuit: true, SameRank: true, Wild: []int{from}, Skip: []int{from}, Take: 1, Limit: 1}
	for _, c := range noCards {
		if got := impl.FitCount(all, c); got != 0 {
			t.Errorf("on %d, %d cards fit", c, got)
		}
		if impl.DoesSkip(all, c) {
			t.Errorf("%d skips", c)
		}
		for _, other := range slices.Concat(wholeDeck(), noCards) {
			if impl.FitsOn(all, c, other) || impl.FitsOn(all, other, c) {
				t.Errorf("%d and %d fit", c, other)
			}
		}
	}
}

// Promise 22: whatever lies on top, a wild card fits, by rules of any kind.
func TestWildCardsFitOnAll(t *testing.T) {
	random := numbers{197}
	for range 120 {
		r := random.someRules()
		if !impl.IsRules(r) {
			t.Fatalf("%v are no rules", r)
		}
		wild := impl.MatchSet(r.Wild)
		for top := range 52 {
			for _, c := range wild {
				if !impl.FitsOn(r, top, c) {
					t.Errorf("by %v, on %d the wild card %d does not fit", r, top, c)
				}
			}
			if got := impl.FitCount(r, top); got < len(impl.Without(wild, top)) {
				t.Errorf("by %v, on %d only %d cards fit", r, top, got)
			}
		}
	}
}

func TestEqualRules(t *testing.T) {
	r := easyRules()
	others := append(changedRules(r), r, cloneRules(r), impl.EasyRules(), impl.Rules{Wild: []int{}, Skip: []int{}})
	change := func(f func(r *impl.Rules)) {
		other := cloneRules(r)
		f(&other)
		others = append(others, other)
	}
	change(func(r *impl.Rules) { r.Players = 4 })
	change(func(r *impl.Rules) { r.Each = 4 })
	change(func(r *impl.Rules) { r.SameSuit = false })
	change(func(r *impl.Rules) { r.SameRank = false })
	change(func(r *impl.Rules) { r.SameSuit, r.SameRank = false, false })
	change(func(r *impl.Rules) { r.Wild = nil })
	change(func(r *impl.Rules) { r.Wild = []int{} })
	change(func(r *impl.Rules) { r.Wild = []int{206, 206} })
	change(func(r *impl.Rules) { r.Wild = []int{206, not, not} })
	change(func(r *impl.Rules) { r.Skip = nil })
	change(func(r *impl.Rules) { r.Skip = []int{211} })
	change(func(r *impl.Rules) { r.Wild, r.Skip = r.Skip, r.Wild })
	change(func(r *impl.Rules) { r.Take = 2 })
	change(func(r *impl.Rules) { r.Limit = 199 })
	change(func(r *impl.Rules) { r.Take, r.Limit = 200, 1 })
	for _, a := range others {
		for _, b := range others {
			if got, want := impl.EqualRules(a, b), sameRules(a, b); got != want {
				t.Errorf("EqualRules(%v, %v) is %t", a, b, got)
			}
		}
	}
}

func TestEasyRules(t *testing.T) {
	r := impl.EasyRules()
	if !sameRules(r, easyRules()) || !impl.IsRules(r) {
		t.Errorf("EasyRules is %v", r)
	}
	scribble(r.Wild, 99)
	scribble(r.Skip, 99)
	if again := impl.EasyRules(); !sameRules(again, easyRules()) {
		t.Errorf("then EasyRules is %v", again)
	}
}

func TestRulesKeepArguments(t *testing.T) {
	for _, r := range append(changedRules(easyRules()), easyRules(), impl.Rules{Players: 2, Each: 1, SameSuit: true, Wild: chain(20), Take: 1, Limit: 1}) {
		keepsRows(t, "IsRules and others", [][]int{r.Wild, r.Skip}, func(rows [][]int) [][]int {
			q := r
			q.Wild, q.Skip = rows[0], rows[1]
			impl.IsRules(q)
			impl.FitsOn(q, 5, 18)
			impl.FitCount(q, 5)
			impl.DoesSkip(q, 12)
			impl.EqualRules(q, r)
			return nil
		})
	}
}
