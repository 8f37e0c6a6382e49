package tests

import (
	"math"
	"slices"
	"testing"

	"loop.example/g03010/impl"
)

// suitInOrder are the ranks of a suit as a foundation takes them.
var suitInOrder = "A23456789TJQK"

func slowStep(c int) int {
	return c%13 + 2 - c%13/12*13
}

func slowIsBase(b []int) bool {
	return len(b) == 4 && slices.Min(b) >= 0 && slices.Max(b) <= 13
}

func slowMayBuild(b []int, c int) bool {
	return slowIsBase(b) && c >= 0 && c < 52 && b[c/13] == slowStep(c)-1
}

func slowIsSafe(b []int, c int) bool {
	if !slowMayBuild(b, c) {
		return false
	}
	step := slowStep(c)
	others := []int{b[0], b[3]}
	if c/13 == 0 || c/13 == 3 {
		others = []int{b[1], b[2]}
	}
	return step <= 2 || slices.Min(others) >= step-1
}

// notBases are lists that are no foundation.
var notBases = [][]int{
	nil, {}, {0}, {0, 0, 0}, {0, 0, 0, 0, 0}, {13, 13, 13}, {13, 13, 13, 13, 13}, {0, 0, 0, 14}, {14, 0, 0, 0}, {0, 0, 0, -1}, {-1, 0, 0, 0}, {0, -1, 14, 0},
	{math.MaxInt, 0, 0, 0}, {0, 0, math.MinInt, 0}, {14, 14, 14, 14}, {-1, -1, -1, -1}, wholeDeck(),
}

// someBase returns a foundation, one in four times with a suit that is full.
func (n *numbers) someBase() []int {
	b := []int{n.below(14), n.below(14), n.below(14), n.below(14)}
	if n.below(4) == 0 {
		b[n.below(4)] = 13
	}
	return b
}

func TestIsBase(t *testing.T) {
	for _, b := range [][]int{{0, 0, 0, 0}, {13, 13, 13, 13}, {0, 3, 1, 13}, {13, 0, 0, 0}, {0, 0, 0, 13}, {1, 2, 3, 4}} {
		if !impl.IsBase(b) {
			t.Errorf("%v is no foundation", b)
		}
	}
	for _, b := range notBases {
		if impl.IsBase(b) {
			t.Errorf("%v is a foundation", b)
		}
		if got := impl.BaseCards(b); len(got) != 0 {
			t.Errorf("on %v lie %v", b, got)
		}
		for _, c := range slices.Concat(wholeDeck(), noCards) {
			if impl.MayBuild(b, c) || impl.IsSafe(b, c) {
				t.Errorf("on %v, %d may be built", b, c)
			}
			if got, ok := impl.Built(b, c); ok || !slices.Equal(got, b) {
				t.Errorf("Built(%v, %d) is %v, %t", b, c, got, ok)
			}
		}
	}
}

func TestStepOf(t *testing.T) {
	for suit := range 4 {
		for i := range suitInOrder {
			c := slices.Index(deckTexts, suitInOrder[i:i+1]+"cdhs"[suit:suit+1])
			if got := impl.StepOf(c); got != i+1 {
				t.Errorf("StepOf(%d) is %d, not %d", c, got, i+1)
			}
		}
	}
	for _, c := range noCards {
		if got := impl.StepOf(c); got != 0 {
			t.Errorf("StepOf(%d) is %d", c, got)
		}
	}
}

func checkBuild(t *testing.T, b []int, c int) {
	t.Helper()
	may := slowMayBuild(b, c)
	if got := impl.MayBuild(b, c); got != may {
		t.Errorf("MayBuild(%v, %d) is %t", b, c, got)
	}
	if got, want := impl.IsSafe(b, c), slowIsSafe(b, c); got != want {
		t.Errorf("IsSafe(%v, %d) is %t", b, c, got)
	}
	want := slices.Clone(b)
	if may {
		want[c/13]++
	}
	if got, ok := impl.Built(b, c); ok != may || !slices.Equal(got, want) {
		t.Errorf("Built(%v, %d) is %v, %t", b, c, got, ok)
	}
}

func TestMayBuild(t *testing.T) {
	random := numbers{107}
	bases := [][]int{{0, 0, 0, 0}, {13, 13, 13, 13}, {12, 12, 12, 12}, {0, 3, 1, 13}, {13, 12, 13, 12}}
	for range 500 {
		bases = append(bases, random.someBase())
	}
	for _, b := range bases {
		for _, c := range slices.Concat(wholeDeck(), noCards) {
			checkBuild(t, b, c)
		}
	}
}

// On a suit that is full nothing can be built, whatever the others are.
func TestFullFoundations(t *testing.T) {
	for suit := range 4 {
		for others := 0; others <= 13; others++ {
			b := []int{others, others, others, others}
			b[suit] = 13
			for c := suit * 13; c < suit*13+13; c++ {
				if got, ok := impl.Built(b, c); ok || impl.MayBuild(b, c) || impl.IsSafe(b, c) || !slices.Equal(got, b) {
					t.Errorf("on %v, %d was built: %v", b, c, got)
				}
			}
			if got := impl.BaseCards(b); len(got) != 13+3*others {
				t.Errorf("on %v lie %v", b, got)
			}
		}
	}
	if got := impl.BaseCards([]int{13, 13, 13, 13}); !slices.Equal(got, wholeDeck()) {
		t.Errorf("on a full foundation lie %v", got)
	}
}

func TestBaseCards(t *testing.T) {
	for _, c := range []struct {
		b    []int
		want string
	}{
		{[]int{0, 0, 0, 0}, ""},
		{[]int{1, 0, 0, 0}, "Ac"},
		{[]int{2, 0, 1, 0}, "2cAcAh"},
		{[]int{0, 0, 0, 3}, "2s3sAs"},
		{[]int{12, 1, 0, 1}, "2c3c4c5c6c7c8c9cTcJcQcAcAdAs"},
		{[]int{0, 13, 0, 0}, "2d3d4d5d6d7d8d9dTdJdQdKdAd"},
	} {
		if got := impl.BaseCards(c.b); !slices.Equal(got, hand(c.want)) {
			t.Errorf("on %v lie %v", c.b, got)
		}
	}
}

func TestIsSafe(t *testing.T) {
	for _, c := range []struct {
		b    []int
		card string
		want bool
	}{
		{[]int{0, 0, 0, 0}, "Ah", true},
		{[]int{0, 0, 1, 0}, "2h", true},
		{[]int{0, 0, 2, 0}, "3h", false},
		{[]int{2, 0, 2, 1}, "3h", false},
		{[]int{1, 0, 2, 2}, "3h", false},
		{[]int{2, 0, 2, 2}, "3h", true},
		{[]int{3, 0, 2, 9}, "3h", true},
		{[]int{2, 0, 2, 2}, "4h", false},
		{[]int{2, 0, 0, 2}, "3d", false},
		{[]int{2, 2, 0, 2}, "3d", true},
		{[]int{2, 2, 2, 0}, "3c", true},
		{[]int{2, 2, 1, 13}, "3c", false},
		{[]int{2, 1, 2, 13}, "3c", false},
		{[]int{0, 12, 12, 12}, "Ks", true},
		{[]int{13, 11, 12, 12}, "Ks", false},
		{[]int{12, 12, 13, 12}, "Kd", true},
		{[]int{12, 12, 13, 11}, "Kd", false},
	} {
		if got := impl.IsSafe(c.b, hand(c.card)[0]); got != c.want {
			t.Errorf("IsSafe(%v, %s) is %t", c.b, c.card, got)
		}
	}
}

// Promise 17: a foundation grows by just one card of a suit, the next one, until all cards lie on it.
func TestFoundationsGrowByOneCard(t *testing.T) {
	random := numbers{109}
	for range 100 {
		b := []int{0, 0, 0, 0}
		lying := []int{}
		for len(lying) < 52 {
			may := []int{}
			for c := range 52 {
				if impl.MayBuild(b, c) {
					may = append(may, c)
				}
			}
			if len(may) == 0 {
				t.Fatalf("on %v nothing can be built", b)
			}
			c := may[random.below(len(may))]
			next, ok := impl.Built(b, c)
			if !ok || !impl.IsBase(next) || sumOf(next) != sumOf(b)+1 || next[c/13] != b[c/13]+1 {
				t.Fatalf("Built(%v, %d) is %v, %t", b, c, next, ok)
			}
			lying = append(lying, c)
			slices.Sort(lying)
			if got := impl.BaseCards(next); !slices.Equal(got, lying) {
				t.Errorf("on %v lie %v, not %v", next, got, lying)
			}
			b = next
		}
		if !slices.Equal(b, []int{13, 13, 13, 13}) {
			t.Errorf("the full foundation is %v", b)
		}
	}
}

func TestFoundationsKeepArguments(t *testing.T) {
	for _, b := range append(notBases, []int{0, 0, 0, 0}, []int{0, 3, 1, 13}, []int{13, 13, 13, 13}) {
		for _, c := range []int{12, 15, 0, 51, 52} {
			keepsInts(t, "Built", b, func(b []int) []int { next, _ := impl.Built(b, c); return next })
			keepsInts(t, "IsBase and others", b, func(b []int) []int {
				impl.IsBase(b)
				impl.MayBuild(b, c)
				impl.IsSafe(b, c)
				return nil
			})
		}
		keepsInts(t, "BaseCards", b, impl.BaseCards)
	}
}
