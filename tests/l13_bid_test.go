package tests

import (
	"math"
	"slices"
	"testing"

	"loop.example/g03010/impl"
)

func slowCallsEnd(players int, calls []int) bool {
	if players < 1 {
		return false
	}
	zeros := 0
	for i := len(calls) - 1; i >= 0 && calls[i] == 0; i-- {
		zeros++
	}
	if zeros == len(calls) {
		return zeros >= players
	}
	return zeros >= players-1
}

func slowIsCalls(players int, calls []int) bool {
	if players < 2 || players > 4 {
		return false
	}
	for i, call := range calls {
		if call < 0 || call > 35 || slowCallsEnd(players, calls[:i]) {
			return false
		}
		if call > 0 && call <= slowHighBid(calls[:i]) {
			return false
		}
	}
	return true
}

func slowHighBid(calls []int) int {
	return slices.Max(append([]int{0}, calls...))
}

func slowDeclarer(players int, calls []int) int {
	high := slowHighBid(calls)
	if high == 0 || !slowIsCalls(players, calls) || !slowCallsEnd(players, calls) {
		return -1
	}
	return slices.Index(calls, high) % players
}

func slowLegalCalls(players int, calls []int) []int {
	legal := []int{}
	if !slowIsCalls(players, calls) || slowCallsEnd(players, calls) {
		return legal
	}
	for call := range 36 {
		if call == 0 || call > slowHighBid(calls) {
			legal = append(legal, call)
		}
	}
	return legal
}

func checkCalls(t *testing.T, players int, calls []int) {
	t.Helper()
	if got, want := impl.IsCalls(players, calls), slowIsCalls(players, calls); got != want {
		t.Errorf("IsCalls(%d, %v) is %t", players, calls, got)
	}
	if got, want := impl.CallsEnd(players, calls), slowCallsEnd(players, calls); got != want {
		t.Errorf("CallsEnd(%d, %v) is %t", players, calls, got)
	}
	if got, want := impl.HighBid(calls), slowHighBid(calls); got != want {
		t.Errorf("HighBid(%v) is %d", calls, got)
	}
	if got, want := impl.Declarer(players, calls), slowDeclarer(players, calls); got != want {
		t.Errorf("Declarer(%d, %v) is %d, not %d", players, calls, got, want)
	}
	if got, want := impl.LegalCalls(players, calls), slowLegalCalls(players, calls); !slices.Equal(got, want) {
		t.Errorf("LegalCalls(%d, %v) is %v, not %v", players, calls, got, want)
	}
}

var playerCounts = []int{-1, 0, 1, 2, 3, 4, 5, 6, math.MinInt, math.MaxInt}

// All short rows of these calls.
func TestCallsOfAnyKind(t *testing.T) {
	rows := [][]int{{}}
	for range 6 {
		var longer [][]int
		for _, calls := range rows {
			for _, players := range playerCounts {
				checkCalls(t, players, calls)
			}
			for _, call := range []int{0, 1, 2, 35, 36, -1} {
				longer = append(longer, append(slices.Clone(calls), call))
			}
		}
		rows = longer
	}
}

func TestCalls(t *testing.T) {
	if impl.MaxBid != 35 {
		t.Errorf("MaxBid is %d", impl.MaxBid)
	}
	for _, c := range []struct {
		players  int
		calls    []int
		is, end  bool
		high, by int
	}{
		{3, nil, true, false, 0, -1},
		{3, []int{0, 0}, true, false, 0, -1},
		{3, []int{0, 0, 0}, true, true, 0, -1},
		{3, []int{5, 0, 0}, true, true, 5, 0},
		{3, []int{0, 0, 5, 0, 0}, true, true, 5, 2},
		{3, []int{0, 5, 7, 0, 0}, true, true, 7, 2},
		{3, []int{1, 2, 3, 4, 0, 0}, true, true, 4, 0},
		{4, []int{0, 0, 0, 1, 0, 2, 0, 0, 0}, true, true, 2, 1},
		{2, []int{3, 4, 0}, true, true, 4, 1},
		{2, []int{35, 0}, true, true, 35, 0},
		{2, []int{0, 35, 0}, true, true, 35, 1},
		{3, []int{5, 5}, false, false, 5, -1},
		{3, []int{5, 0, 4}, false, false, 5, -1},
		{3, []int{36}, false, false, 36, -1},
		{3, []int{36, 0, 0}, false, true, 36, -1},
		{3, []int{-3}, false, false, 0, -1},
		{3, []int{-3, 0, 0}, false, true, 0, -1},
		{1, []int{}, false, false, 0, -1},
		{1, []int{0}, false, true, 0, -1},
		{1, []int{7}, false, true, 7, -1},
		{0, []int{0}, false, false, 0, -1},
		{5, []int{7, 0, 0, 0, 0}, false, true, 7, -1},
		{3, []int{math.MinInt, math.MaxInt}, false, false, math.MaxInt, -1},
	} {
		if impl.IsCalls(c.players, c.calls) != c.is || impl.CallsEnd(c.players, c.calls) != c.end || impl.HighBid(c.calls) != c.high || impl.Declarer(c.players, c.calls) != c.by {
			t.Errorf("%d players, %v: %t, %t, %d, %d", c.players, c.calls, impl.IsCalls(c.players, c.calls), impl.CallsEnd(c.players, c.calls), impl.HighBid(c.calls), impl.Declarer(c.players, c.calls))
		}
		checkCalls(t, c.players, c.calls)
	}
}

// No call comes behind the end, a pass neither.
func TestCallsBehindTheEnd(t *testing.T) {
	for players := 2; players <= 4; players++ {
		passes := make([]int, players)
		bid := append([]int{5}, make([]int, players-1)...)
		for _, ended := range [][]int{passes, bid, slices.Concat(passes[1:], bid), slices.Concat([]int{1}, passes[2:], bid)} {
			if !impl.IsCalls(players, ended) || !impl.CallsEnd(players, ended) || len(impl.LegalCalls(players, ended)) != 0 {
				t.Errorf("%d players: %v is not at its end", players, ended)
			}
			for call := -1; call <= 36; call++ {
				more := append(slices.Clone(ended), call)
				if impl.IsCalls(players, more) || impl.Declarer(players, more) != -1 || len(impl.LegalCalls(players, more)) != 0 {
					t.Errorf("%d players: %v goes on behind the end", players, more)
				}
				checkCalls(t, players, more)
			}
		}
		long := append(slices.Clone(bid), make([]int, 100000)...)
		if impl.IsCalls(players, long) || !impl.CallsEnd(players, long) {
			t.Errorf("%d players: many passes behind the end", players)
		}
	}
}

// Promise 13: behind a valid bidding just the legal calls keep it valid, and every bidding comes to its end.
func TestEveryLegalCallKeepsTheBiddingValid(t *testing.T) {
	random := numbers{67}
	for round := range 300 {
		players := 2 + round%3
		calls := []int{}
		for !impl.CallsEnd(players, calls) {
			legal := impl.LegalCalls(players, calls)
			for call := -2; call <= 37; call++ {
				if got, want := impl.IsCalls(players, append(slices.Clone(calls), call)), slices.Contains(legal, call); got != want {
					t.Errorf("%d players: behind %v the call %d is valid: %t", players, calls, call, got)
				}
			}
			if len(legal) == 0 {
				t.Fatalf("%d players: nothing can come behind %v", players, calls)
			}
			calls = append(calls, legal[random.below(min(len(legal), 1+random.below(6)))])
			checkCalls(t, players, calls)
		}
		if by := impl.Declarer(players, calls); (by == -1) != (impl.HighBid(calls) == 0) || by >= players {
			t.Errorf("%d players: the declarer of %v is %d", players, calls, by)
		}
	}
}

func TestLegalCalls(t *testing.T) {
	for _, c := range []struct {
		players     int
		calls, want []int
	}{
		{3, nil, countUp(0, 36)},
		{3, []int{0, 0}, countUp(0, 36)},
		{3, []int{0, 33}, []int{0, 34, 35}},
		{3, []int{33, 0}, []int{0, 34, 35}},
		{3, []int{34}, []int{0, 35}},
		{3, []int{35}, []int{0}},
		{3, []int{5, 0, 0}, nil},
		{3, []int{5, 5}, nil},
		{3, []int{36}, nil},
		{1, nil, nil},
		{5, nil, nil},
	} {
		if got := impl.LegalCalls(c.players, c.calls); !slices.Equal(got, c.want) {
			t.Errorf("LegalCalls(%d, %v) is %v", c.players, c.calls, got)
		}
	}
}

func TestHighBid(t *testing.T) {
	for _, c := range []struct {
		calls []int
		want  int
	}{
		{nil, 0}, {[]int{}, 0}, {[]int{0}, 0}, {[]int{-3}, 0}, {[]int{-3, -1}, 0}, {[]int{36}, 36}, {[]int{7, 9, 8}, 9}, {[]int{math.MaxInt, 5}, math.MaxInt}, {[]int{math.MinInt}, 0},
	} {
		if got := impl.HighBid(c.calls); got != c.want {
			t.Errorf("HighBid(%v) is %d", c.calls, got)
		}
	}
}

func TestBiddingKeepsArguments(t *testing.T) {
	for _, calls := range [][]int{{}, {0, 33}, {5, 0, 0}, {5, 5}, {99}} {
		keepsInts(t, "LegalCalls", calls, func(calls []int) []int { return impl.LegalCalls(3, calls) })
		keepsInts(t, "IsCalls and others", calls, func(calls []int) []int {
			impl.IsCalls(3, calls)
			impl.CallsEnd(3, calls)
			impl.HighBid(calls)
			impl.Declarer(3, calls)
			return nil
		})
	}
}
