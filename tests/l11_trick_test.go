package tests

import (
	"math"
	"slices"
	"testing"

	"loop.example/g03010/impl"
)

func slowMayPlay(hand []int, trick []int, c int) bool {
	if !slices.Contains(hand, c) {
		return false
	}
	if len(trick) == 0 {
		return true
	}
	has := slices.ContainsFunc(hand, func(x int) bool { return x/13 == trick[0]/13 })
	return c/13 == trick[0]/13 || !has
}

func TestMayPlay(t *testing.T) {
	h := hand("AsKd2c7h")
	for _, c := range []struct {
		hand, trick []int
		c           int
		want        bool
	}{
		{h, nil, 51, true},
		{h, []int{}, 0, true},
		{h, nil, 3, false},
		{h, hand("3d"), 24, true},
		{h, hand("3d"), 51, false},
		{h, hand("3d"), 14, false},
		{h, hand("3s3d"), 51, true},
		{h, hand("3s3d"), 24, false},
		{hand("As2c"), hand("3d"), 51, true},
		{hand("As2c"), hand("3d"), 0, true},
		{hand("As2c"), hand("3d4c"), 51, true},
		{hand("As"), hand("As"), 51, true},
		{nil, nil, 0, false},
		{[]int{}, hand("3d"), 0, false},
		{h, nil, 52, false},
		{h, nil, -1, false},
		{h, nil, math.MinInt, false},
		{h, nil, math.MaxInt, false},
		{h, []int{52}, 24, true},
		{h, []int{-1, 14}, 51, true},
		{h, []int{14, 14, 99}, 24, true},
	} {
		if got := impl.MayPlay(c.hand, c.trick, c.c); got != c.want {
			t.Errorf("MayPlay(%v, %v, %d) is %t", c.hand, c.trick, c.c, got)
		}
	}
	for _, l := range oddLists {
		for _, c := range append(l, 3) {
			if impl.MayPlay(l, nil, c) || impl.MayPlay(l, []int{3}, c) {
				t.Errorf("of %v, %d may be played", l, c)
			}
		}
		if got := impl.Choices(l, nil); len(got) != 0 {
			t.Errorf("of %v, %v may be played", l, got)
		}
	}
}

func TestChoices(t *testing.T) {
	for _, c := range []struct{ hand, trick, want []int }{
		{nil, nil, nil},
		{nil, hand("3d"), nil},
		{hand("AsKd2c7h"), nil, hand("2cKd7hAs")},
		{hand("AsKd2c7h"), hand("3d"), hand("Kd")},
		{hand("As2c"), hand("3d"), hand("2cAs")},
		{hand("Ad2d9dKs3c"), hand("3dKs"), hand("2d9dAd")},
		{hand("AsKd"), []int{99}, hand("KdAs")},
	} {
		if got := impl.Choices(c.hand, c.trick); !slices.Equal(got, c.want) {
			t.Errorf("Choices(%v, %v) is %v, not %v", c.hand, c.trick, got, c.want)
		}
	}
	random := numbers{47}
	for range 500 {
		cards := random.someHand(random.below(20))
		cut := random.below(len(cards) + 1)
		h, trick := cards[:cut], cards[cut:]
		want := []int{}
		for c := range 52 {
			may := slowMayPlay(h, trick, c)
			if may {
				want = append(want, c)
			}
			if impl.MayPlay(h, trick, c) != may {
				t.Errorf("MayPlay(%v, %v, %d) is %t", h, trick, c, !may)
			}
		}
		if got := impl.Choices(h, trick); !slices.Equal(got, want) {
			t.Errorf("Choices(%v, %v) is %v, not %v", h, trick, got, want)
		}
	}
}

func TestBeats(t *testing.T) {
	for a := range 52 {
		for b := range 52 {
			for trump := -1; trump <= 3; trump++ {
				want := a/13 == b/13 && a%13 > b%13 || a/13 == trump && b/13 != trump
				if got := impl.Beats(a, b, trump); got != want {
					t.Errorf("Beats(%d, %d, %d) is %t", a, b, trump, got)
				}
			}
			for _, trump := range []int{-2, 4, 5, math.MinInt, math.MaxInt} {
				if got := impl.Beats(a, b, trump); got != (a/13 == b/13 && a > b) {
					t.Errorf("Beats(%d, %d, %d) is %t", a, b, trump, got)
				}
			}
		}
	}
	for _, c := range noCards {
		for trump := -1; trump <= 4; trump++ {
			for _, d := range append([]int{0, 1, 51}, noCards...) {
				if impl.Beats(c, d, trump) || impl.Beats(d, c, trump) {
					t.Errorf("%d beats %d, or is beaten, with the trump %d", c, d, trump)
				}
			}
		}
	}
}

func TestWinnerOf(t *testing.T) {
	for _, c := range []struct {
		s           string
		trump, want int
	}{
		{"3dKd9dAs", -1, 1},
		{"3dKd9dAs", 3, 3},
		{"3d2cKd4c", 0, 3},
		{"3d4c2c", 0, 1},
		{"3d4c2cAd", 0, 1},
		{"3h4d5d", 1, 2},
		{"As2s", 0, 0},
		{"2sAs", 0, 1},
		{"2sAh", -1, 0},
		{"2s3s4s5s6s", 2, 4},
		{"6s5s4s3s2s", 2, 0},
		{"2dAcAhAs", -1, 0},
		{"2dAcAhAs", 4, 0},
		{"2d3d", math.MaxInt, 1},
		{"2d3d", math.MinInt, 1},
	} {
		if got := impl.WinnerOf(hand(c.s), c.trump); got != c.want {
			t.Errorf("WinnerOf(%s, %d) is %d, not %d", c.s, c.trump, got, c.want)
		}
	}
	for trump := -2; trump <= 4; trump++ {
		for c := range 52 {
			if got := impl.WinnerOf([]int{c}, trump); got != 0 {
				t.Errorf("the card %d alone: %d wins", c, got)
			}
		}
		for _, l := range append([][]int{nil, {}}, oddLists...) {
			if got := impl.WinnerOf(l, trump); got != -1 {
				t.Errorf("WinnerOf(%v, %d) is %d", l, trump, got)
			}
		}
	}
}

// Promise 11: no card of a trick beats the one that wins, and the first card or a trump wins.
func TestNothingBeatsWhatWins(t *testing.T) {
	random := numbers{53}
	for range 2000 {
		trick := random.someHand(1 + random.below(8))
		for trump := -1; trump <= 3; trump++ {
			wins := impl.WinnerOf(trick, trump)
			if wins < 0 || wins >= len(trick) {
				t.Fatalf("WinnerOf(%v, %d) is %d", trick, trump, wins)
			}
			for _, c := range trick {
				if impl.Beats(c, trick[wins], trump) {
					t.Errorf("of %v with the trump %d, %d wins, but %d beats it", trick, trump, trick[wins], c)
				}
			}
			if s := trick[wins] / 13; s != trump && s != trick[0]/13 {
				t.Errorf("of %v with the trump %d, %d wins", trick, trump, trick[wins])
			}
		}
	}
}

func TestTrickPoints(t *testing.T) {
	for _, c := range []struct {
		trick []int
		want  int
	}{
		{nil, 0},
		{[]int{}, 0},
		{hand("AcTdKhQsJc9d"), 30},
		{hand("AcAdAhAs"), 44},
		{hand("Tc"), 10},
		{hand("Kc"), 4},
		{hand("Qc"), 3},
		{hand("Jc"), 2},
		{hand("2c3d4h5s6c7d8h9s"), 0},
		{hand("AcAc"), 22},
		{[]int{52, -1, 64, math.MinInt, math.MaxInt, 12 + 52}, 0},
		{[]int{12, 52}, 11},
		{wholeDeck(), 120},
	} {
		if got := impl.TrickPoints(c.trick); got != c.want {
			t.Errorf("TrickPoints(%v) is %d, not %d", c.trick, got, c.want)
		}
	}
	for c := range 52 {
		want := []int{0, 0, 0, 0, 0, 0, 0, 0, 10, 2, 3, 4, 11}[c%13]
		if got := impl.TrickPoints([]int{c}); got != want {
			t.Errorf("the card %d counts %d", c, got)
		}
	}
}

func TestIsFollowed(t *testing.T) {
	hands := [][]int{hand("AsKd"), hand("2d3c"), hand("5s6s")}
	for _, c := range []struct {
		hands  [][]int
		trick  string
		leader int
		want   bool
	}{
		{hands, "2d5sKd", 1, true},
		{hands, "2d6sKd", 1, true},
		{hands, "3c5sAs", 1, true},
		{hands, "3c5sKd", 1, true},
		{hands, "As2d5s", 0, true},
		{hands, "Kd2d6s", 0, true},
		{hands, "Kd3c6s", 0, false},
		{hands, "6sAs3c", 2, true},
		{hands, "6sKd3c", 2, false},
		{hands, "2d5sAs", 1, false},
		{hands, "2d5sKd", 0, false},
		{hands, "2d5sKd", 2, false},
		{hands, "2d5sKd", 3, false},
		{hands, "2d5sKd", -1, false},
		{hands, "2d5sKd", 4, false},
		{hands, "2d5sKd", -2, false},
		{hands, "2d5sKd", math.MaxInt, false},
		{hands, "2d5sKd", math.MinInt, false},
		{hands, "2d5s", 1, false},
		{hands, "2d", 1, false},
		{hands, "", 1, false},
		{hands, "2d5sKd3c", 1, false},
		{[][]int{hand("As"), hand("2d3c")}, "As2d", 0, true},
		{[][]int{hand("As")}, "As", 0, true},
		{[][]int{hand("As")}, "As", 1, false},
		{[][]int{hand("As")}, "Ks", 0, false},
		{[][]int{hand("As"), nil}, "As2d", 0, false},
		{[][]int{nil}, "As", 0, false},
		{nil, "", 0, false},
		{[][]int{}, "", 0, false},
		{[][]int{hand("AsAs"), hand("2d")}, "As2d", 0, false},
		{[][]int{hand("As"), hand("As")}, "AsAs", 1, true},
	} {
		if got := impl.IsFollowed(c.hands, hand(c.trick), c.leader); got != c.want {
			t.Errorf("IsFollowed(%v, %s, %d) is %t", c.hands, c.trick, c.leader, got)
		}
	}
	if impl.IsFollowed([][]int{{0}, {1}}, []int{0, 52}, 0) || impl.IsFollowed([][]int{{52}, {1}}, []int{52, 1}, 0) {
		t.Errorf("what is no card is played")
	}
}

func TestTricksKeepArguments(t *testing.T) {
	for _, l := range [][]int{{}, {5}, hand("AsKd2c7h"), {5, 5}} {
		for _, other := range [][]int{{}, {14}, {99}} {
			keepsInts(t, "Choices of a hand", l, func(l []int) []int { return impl.Choices(l, other) })
			keepsInts(t, "Choices for a trick", other, func(other []int) []int { return impl.Choices(l, other) })
		}
		keepsRows(t, "IsFollowed and others", [][]int{l, {1, 2}}, func(rows [][]int) [][]int {
			impl.MayPlay(rows[0], rows[1], 51)
			impl.WinnerOf(rows[0], 2)
			impl.TrickPoints(rows[0])
			impl.IsFollowed(rows, rows[1], 1)
			return nil
		})
	}
}
