package tests

import (
	"math"
	"slices"
	"testing"

	"loop.example/g03010/impl"
)

const greatestSeed = 1000000

// seedsNearTheRange are seeds and salts, and whether they are in the range.
var seedsNearTheRange = map[int]bool{
	0: true, 1: true, 77: true, 999999: true, 1000000: true,
	1000001: false, 1000002: false, 2000002: false, -1: false, -2: false, -1000001: false, 1 << 40: false, math.MinInt: false, math.MaxInt: false,
}

// opening is what the players of a shuffle have told.
type opening struct{ seals, seeds, salts []int }

func (n *numbers) someOpening(players int) opening {
	var o opening
	for who := range players {
		seed, salt := n.below(greatestSeed+1), n.below(greatestSeed+1)
		o.seeds = append(o.seeds, seed)
		o.salts = append(o.salts, salt)
		o.seals = append(o.seals, slowHash([]int{who, seed, salt}))
	}
	return o
}

func (o opening) clone() opening {
	return opening{slices.Clone(o.seals), slices.Clone(o.seeds), slices.Clone(o.salts)}
}

// slowJointSeed adds the seeds up without a chance to wrap around.
func slowJointSeed(seeds []int) int {
	sum := 0
	for _, seed := range seeds {
		sum += (seed%1000001 + 1000001) % 1000001
	}
	return sum % 1000001
}

func checkNotOpened(t *testing.T, o opening) {
	t.Helper()
	if impl.AreOpened(o.seals, o.seeds, o.salts) {
		t.Errorf("%v is opened", o)
	}
	if deck, ok := impl.JointDeck(o.seals, o.seeds, o.salts); ok || len(deck) != 0 {
		t.Errorf("the deck of %v is %v, %t", o, deck, ok)
	}
}

func TestSeedSeal(t *testing.T) {
	if impl.MaxSeed != greatestSeed {
		t.Errorf("MaxSeed is %d", impl.MaxSeed)
	}
	for _, who := range []int{0, 1, 5, 6, -1, math.MinInt, math.MaxInt} {
		for seed := range seedsNearTheRange {
			for salt := range seedsNearTheRange {
				if got, want := impl.SeedSeal(who, seed, salt), slowHash([]int{who, seed, salt}); got != want {
					t.Errorf("SeedSeal(%d, %d, %d) is %d, not %d", who, seed, salt, got, want)
				}
			}
		}
	}
}

func TestIsOpened(t *testing.T) {
	for _, who := range []int{0, 1, 5, 6, -1, math.MinInt, math.MaxInt} {
		for seed, isSeed := range seedsNearTheRange {
			for salt, isSalt := range seedsNearTheRange {
				seal := slowHash([]int{who, seed, salt})
				if got := impl.IsOpened(who, seed, salt, seal); got != (isSeed && isSalt) {
					t.Errorf("IsOpened(%d, %d, %d) of the own seal is %t", who, seed, salt, got)
				}
				for _, other := range []int{seal + 1, seal - 1, -seal - 1, seal + cryptoModulus, seal + 1<<32, slowHash([]int{who, seed, salt, 0}), slowHash([]int{seed, who, salt + 1})} {
					if impl.IsOpened(who, seed, salt, other) {
						t.Errorf("%d, %d, %d has the seal %d", who, seed, salt, other)
					}
				}
			}
		}
	}
	seal := slowHash([]int{2, 5, 7})
	if !impl.IsOpened(2, 5, 7, seal) || impl.IsOpened(1, 5, 7, seal) || impl.IsOpened(2, 7, 5, seal) || impl.IsOpened(2, 6, 7, seal) || impl.IsOpened(2, 5, 8, seal) || impl.IsOpened(2, 5+greatestSeed+1, 7, seal) {
		t.Errorf("the seal of 2, 5, 7 is opened by other numbers")
	}
}

func TestAreOpened(t *testing.T) {
	random := numbers{167}
	for players := 0; players <= 8; players++ {
		o := random.someOpening(players)
		if want := players >= 1 && players <= 6; impl.AreOpened(o.seals, o.seeds, o.salts) != want {
			t.Errorf("%d players have opened: %t", players, !want)
		}
		if players < 1 || players > 6 {
			checkNotOpened(t, o)
		}
		for who := range players {
			for _, change := range []func(o opening){
				func(o opening) { o.seals[who]++ },
				func(o opening) { o.seeds[who]++ },
				func(o opening) { o.salts[who]-- },
				func(o opening) { o.seeds[who] += greatestSeed + 1 },
				func(o opening) { o.salts[who] -= greatestSeed + 1 },
				func(o opening) {
					o.seeds[who] = greatestSeed + 1
					o.seals[who] = slowHash([]int{who, o.seeds[who], o.salts[who]})
				},
				func(o opening) { o.salts[who] = -1; o.seals[who] = slowHash([]int{who, o.seeds[who], -1}) },
				func(o opening) { o.seals[who] = slowHash([]int{who + 1, o.seeds[who], o.salts[who]}) },
			} {
				changed := o.clone()
				change(changed)
				checkNotOpened(t, changed)
			}
		}
		if players > 1 {
			turned := opening{append(o.seals[1:len(o.seals):len(o.seals)], o.seals[0]), append(o.seeds[1:len(o.seeds):len(o.seeds)], o.seeds[0]), append(o.salts[1:len(o.salts):len(o.salts)], o.salts[0])}
			checkNotOpened(t, turned)
		}
	}
}

// As many seals, seeds and salts must be told.
func TestAreOpenedOfOtherLengths(t *testing.T) {
	random := numbers{173}
	o := random.someOpening(6)
	for seals := range 7 {
		for seeds := range 7 {
			for salts := range 7 {
				part := opening{o.seals[:seals], o.seeds[:seeds], o.salts[:salts]}
				if seals != seeds || seals != salts || seals == 0 {
					checkNotOpened(t, part)
				} else if !impl.AreOpened(part.seals, part.seeds, part.salts) {
					t.Errorf("%v is not opened", part)
				}
			}
		}
	}
	checkNotOpened(t, opening{})
	checkNotOpened(t, opening{seals: []int{}, seeds: []int{}, salts: []int{}})
}

func TestJointSeed(t *testing.T) {
	for _, c := range []struct {
		seeds []int
		want  int
	}{
		{nil, 0}, {[]int{}, 0}, {[]int{0}, 0}, {[]int{7}, 7}, {[]int{1000000}, 1000000}, {[]int{1000001}, 0}, {[]int{1000000, 1}, 0}, {[]int{5, 1000000, 7}, 11}, {[]int{-1}, 1000000}, {[]int{-1, 2}, 1}, {[]int{-1000001}, 0}, {[]int{-1000002}, 1000000},
		{[]int{1000000, 1000000, 1000000, 1000000, 1000000, 1000000}, 999995},
	} {
		if got := impl.JointSeed(c.seeds); got != c.want {
			t.Errorf("JointSeed(%v) is %d, not %d", c.seeds, got, c.want)
		}
	}
	for _, seeds := range [][]int{{math.MaxInt}, {math.MinInt}, {math.MaxInt, math.MaxInt, math.MaxInt}, {math.MinInt, math.MinInt, math.MinInt, -1}, {math.MaxInt, 1}, {math.MinInt, math.MaxInt}, {1 << 62, 1 << 62, 5}} {
		if got, want := impl.JointSeed(seeds), slowJointSeed(seeds); got != want {
			t.Errorf("JointSeed(%v) is %d, not %d", seeds, got, want)
		}
	}
}

// Promise 21: an opened deck has each card once, and is the same for all who know the seals, seeds and salts.
func TestAnOpenedDeckIsWhole(t *testing.T) {
	random := numbers{179}
	decks := map[int][]int{}
	for round := range 120 {
		o := random.someOpening(1 + round%6)
		if round%10 == 0 {
			o.seeds[0] = []int{0, greatestSeed}[round/10%2]
			o.seals[0] = slowHash([]int{0, o.seeds[0], o.salts[0]})
		}
		deck, ok := impl.JointDeck(o.seals, o.seeds, o.salts)
		again, _ := impl.JointDeck(slices.Clone(o.seals), slices.Clone(o.seeds), slices.Clone(o.salts))
		if !ok || !slices.Equal(deck, again) || !slices.Equal(slices.Sorted(slices.Values(deck)), wholeDeck()) {
			t.Errorf("the deck of %v is %v, %t, and then %v", o, deck, ok, again)
		}
		seed := slowJointSeed(o.seeds)
		if !slices.Equal(deck, slowShuffled(wholeDeck(), seed)) || impl.JointSeed(o.seeds) != seed {
			t.Errorf("the deck of %v is not that of the seed %d", o, seed)
		}
		decks[seed] = deck
	}
	different := map[string]bool{}
	for _, deck := range decks {
		different[impl.HandText(deck)] = true
	}
	if len(different) != len(decks) {
		t.Errorf("%d seeds make %d decks", len(decks), len(different))
	}
}

// Each player has a hand in the deck: another seed of any of them makes another one.
func TestEachSeedCounts(t *testing.T) {
	random := numbers{181}
	o := random.someOpening(4)
	deck, _ := impl.JointDeck(o.seals, o.seeds, o.salts)
	for who := range 4 {
		other := o.clone()
		other.seeds[who] = (other.seeds[who] + 12345) % (greatestSeed + 1)
		checkNotOpened(t, other)
		other.seals[who] = slowHash([]int{who, other.seeds[who], other.salts[who]})
		got, ok := impl.JointDeck(other.seals, other.seeds, other.salts)
		if !ok || slices.Equal(got, deck) {
			t.Errorf("with another seed of %d the deck is %v, %t", who, got, ok)
		}
	}
}

func TestSealsKeepArguments(t *testing.T) {
	random := numbers{191}
	for players := range 8 {
		o := random.someOpening(players)
		for _, o := range []opening{o, {o.seals, o.seals, o.salts}} {
			keepsRows(t, "JointDeck", [][]int{o.seals, o.seeds, o.salts}, func(rows [][]int) [][]int {
				deck, _ := impl.JointDeck(rows[0], rows[1], rows[2])
				impl.AreOpened(rows[0], rows[1], rows[2])
				impl.JointSeed(rows[1])
				return [][]int{deck}
			})
		}
	}
}
