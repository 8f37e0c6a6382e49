package tests

import (
	"math"
	"math/big"
	"math/bits"
	"slices"
	"testing"

	"loop.example/g03010/impl"
)

func slowChoose(n int, k int) int {
	if n < 0 || n > 52 || k < 0 || k > n {
		return 0
	}
	return int(new(big.Int).Binomial(int64(n), int64(k)).Int64())
}

func slowWays(unseen int, good int, draw int, want int) int {
	if unseen < 0 || unseen > 52 || good < 0 || good > unseen || draw < 0 || draw > 10 || want < 0 || want > draw {
		return 0
	}
	return slowChoose(good, want) * slowChoose(unseen-good, draw-want)
}

var extremeNumbers = []int{math.MinInt, -1000, -2, -1, 53, 54, 1000, 1 << 40, math.MaxInt}

func TestChoose(t *testing.T) {
	for n := -2; n <= 55; n++ {
		for k := -2; k <= n+2; k++ {
			if got, want := impl.Choose(n, k), slowChoose(n, k); got != want {
				t.Errorf("Choose(%d, %d) is %d, not %d", n, k, got, want)
			}
		}
		for _, k := range extremeNumbers {
			if impl.Choose(n, k) != slowChoose(n, k) || impl.Choose(k, n) != 0 {
				t.Errorf("of %d, %d can be chosen", n, k)
			}
		}
	}
	for _, c := range [][3]int{{0, 0, 1}, {5, 2, 10}, {52, 5, 2598960}, {52, 7, 133784560}, {52, 26, 495918532948104}, {52, 0, 1}, {52, 52, 1}, {52, 1, 52}, {53, 5, 0}, {52, 53, 0}} {
		if got := impl.Choose(c[0], c[1]); got != c[2] {
			t.Errorf("Choose(%d, %d) is %d", c[0], c[1], got)
		}
	}
}

func TestWaysWith(t *testing.T) {
	for unseen := -1; unseen <= 53; unseen += 3 {
		for good := -1; good <= unseen+1; good++ {
			for draw := -1; draw <= 11; draw++ {
				atLeast := 0
				for want := draw + 1; want >= -1; want-- {
					ways := slowWays(unseen, good, draw, want)
					if got := impl.WaysWith(unseen, good, draw, want); got != ways {
						t.Errorf("WaysWith(%d, %d, %d, %d) is %d, not %d", unseen, good, draw, want, got, ways)
					}
					atLeast += ways
					wanted := atLeast
					if want < 0 {
						wanted = 0
					}
					if got := impl.WaysAtLeast(unseen, good, draw, want); got != wanted {
						t.Errorf("WaysAtLeast(%d, %d, %d, %d) is %d, not %d", unseen, good, draw, want, got, wanted)
					}
					perThousand := 0
					if all := slowChoose(unseen, draw); all > 0 {
						perThousand = 1000 * wanted / all
					}
					if got := impl.PerThousand(unseen, good, draw, want); got != perThousand {
						t.Errorf("PerThousand(%d, %d, %d, %d) is %d, not %d", unseen, good, draw, want, got, perThousand)
					}
				}
			}
		}
	}
}

// More cards than there are cannot be unseen, good, drawn or wanted; fewer than none neither.
func TestMoreCardsThanThereAre(t *testing.T) {
	good := [4]int{20, 5, 4, 2}
	for place := range good {
		beyond := slices.Clone(extremeNumbers)
		switch place {
		case 1:
			beyond = append(beyond, 21)
		case 2:
			beyond = append(beyond, 11, 1)
		case 3:
			beyond = append(beyond, 5)
		case 0:
			beyond = append(beyond, 4)
		}
		for _, n := range beyond {
			c := good
			c[place] = n
			if impl.WaysWith(c[0], c[1], c[2], c[3]) != 0 || impl.WaysAtLeast(c[0], c[1], c[2], c[3]) != 0 || impl.PerThousand(c[0], c[1], c[2], c[3]) != 0 {
				t.Errorf("there are ways for %v", c)
			}
		}
	}
	for _, c := range []struct {
		unseen, good, draw, want   int
		ways, atLeast, perThousand int
	}{
		{52, 52, 10, 10, 15820024220, 15820024220, 1000},
		{52, 0, 10, 0, 15820024220, 15820024220, 1000},
		{52, 0, 10, 1, 0, 0, 0},
		{52, 26, 10, 10, 5311735, 5311735, 0},
		{10, 3, 2, 1, 21, 24, 533},
		{10, 3, 2, 0, 21, 45, 1000},
		{10, 2, 3, 3, 0, 0, 0},
		{2, 1, 3, 1, 0, 0, 0},
		{2, 2, 3, 2, 0, 0, 0},
		{0, 0, 0, 0, 1, 1, 1000},
		{0, 0, 1, 0, 0, 0, 0},
		{47, 9, 1, 1, 9, 9, 191},
		{53, 1, 1, 1, 0, 0, 0},
		{52, 13, 11, 1, 0, 0, 0},
	} {
		if got := impl.WaysWith(c.unseen, c.good, c.draw, c.want); got != c.ways {
			t.Errorf("WaysWith %v is %d", c, got)
		}
		if got := impl.WaysAtLeast(c.unseen, c.good, c.draw, c.want); got != c.atLeast {
			t.Errorf("WaysAtLeast %v is %d", c, got)
		}
		if got := impl.PerThousand(c.unseen, c.good, c.draw, c.want); got != c.perThousand {
			t.Errorf("PerThousand %v is %d", c, got)
		}
	}
}

// Promise 19: the ways with none, one, two good cards and so on are together all ways to draw.
func TestAllWaysTogetherAreAllWays(t *testing.T) {
	for unseen := range 53 {
		for good := range unseen + 1 {
			for draw := range 11 {
				all, ways := impl.Choose(unseen, draw), 0
				for want := range draw + 1 {
					ways += impl.WaysWith(unseen, good, draw, want)
				}
				if ways != all || impl.WaysAtLeast(unseen, good, draw, 0) != all {
					t.Errorf("%d of %d are good: to draw %d there are %d ways of %d", good, unseen, draw, ways, all)
				}
			}
		}
		sum := 0
		for k := range unseen + 1 {
			sum += impl.Choose(unseen, k)
		}
		if sum != 1<<unseen {
			t.Errorf("of %d things all ways to choose are %d", unseen, sum)
		}
	}
}

// The ways are those that are there if all draws are tried.
func TestWaysAreCounted(t *testing.T) {
	for unseen := range 11 {
		for good := range unseen + 1 {
			counts := map[[2]int]int{}
			for mask := range uint(1) << unseen {
				counts[[2]int{bits.OnesCount(mask), bits.OnesCount(mask & (1<<good - 1))}]++
			}
			for draw := range 11 {
				for want := range draw + 1 {
					if got, ways := impl.WaysWith(unseen, good, draw, want), counts[[2]int{draw, want}]; got != ways {
						t.Errorf("WaysWith(%d, %d, %d, %d) is %d, not %d", unseen, good, draw, want, got, ways)
					}
				}
			}
		}
	}
}

func TestOutsFor(t *testing.T) {
	for _, c := range []struct {
		p, seen []int
		want    int
	}{
		{[]int{impl.PtRank + 12}, hand("AcAd5c"), 2},
		{[]int{impl.PtRank + 12}, hand("AcAdAhAs"), 0},
		{[]int{impl.PtRank + 12}, nil, 4},
		{[]int{impl.PtRed}, nil, 26},
		{[]int{impl.PtRed}, []int{}, 26},
		{[]int{impl.PtRed}, hand("2c3c4s"), 26},
		{[]int{impl.PtRed}, hand("2d2d2d"), 25},
		{[]int{impl.PtRed}, []int{13, 52, -1, 99, math.MaxInt}, 25},
		{[]int{impl.PtSuit + 3, impl.PtFrom + 9, impl.PtAnd}, hand("AsKh2s"), 3},
		{[]int{impl.PtRed}, wholeDeck(), 0},
		{[]int{impl.PtRed, impl.PtNot}, wholeDeck()[:13], 13},
		{nil, nil, 0},
		{[]int{impl.PtAnd}, nil, 0},
		{[]int{impl.PtRed, impl.PtRed}, nil, 0},
	} {
		if got := impl.OutsFor(c.p, c.seen); got != c.want {
			t.Errorf("OutsFor(%v, %v) is %d, not %d", c.p, c.seen, got, c.want)
		}
	}
	for _, p := range badPatterns {
		if got := impl.OutsFor(p, hand("2c")); got != 0 {
			t.Errorf("OutsFor(%v) is %d", p, got)
		}
	}
	for _, seen := range [][]int{nil, hand("2cAs9h"), wholeDeck()} {
		keepsRows(t, "OutsFor", [][]int{{impl.PtRed}, seen}, func(rows [][]int) [][]int { impl.OutsFor(rows[0], rows[1]); return nil })
	}
}
