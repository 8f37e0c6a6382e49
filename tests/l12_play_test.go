package tests

import (
	"math"
	"slices"
	"testing"

	"loop.example/g03010/impl"
)

func cloneDeal(d impl.Deal) impl.Deal {
	d.Hands = cloneRows(d.Hands)
	d.Trick = slices.Clone(d.Trick)
	d.Won = slices.Clone(d.Won)
	d.Points = slices.Clone(d.Points)
	return d
}

func equalDeals(a impl.Deal, b impl.Deal) bool {
	return equalRows(a.Hands, b.Hands) && a.Leader == b.Leader && a.Trump == b.Trump && slices.Equal(a.Trick, b.Trick) &&
		slices.Equal(a.Won, b.Won) && slices.Equal(a.Points, b.Points) && a.Left == b.Left
}

func isZeroDeal(d impl.Deal) bool {
	return equalDeals(d, impl.Deal{})
}

// someHands deals each cards to the players and returns the hands.
func (n *numbers) someHands(players int, each int) [][]int {
	cards := n.someHand(players * each)
	hands := [][]int{}
	for i := range players {
		hands = append(hands, slices.Clone(cards[i*each:(i+1)*each]))
	}
	return hands
}

func newDeal(t *testing.T, hands [][]int, leader int, trump int) impl.Deal {
	t.Helper()
	d, ok := impl.NewDeal(hands, leader, trump)
	if !ok {
		t.Fatalf("NewDeal(%v, %d, %d) is false", hands, leader, trump)
	}
	return d
}

func TestNewDeal(t *testing.T) {
	random := numbers{59}
	for players := 2; players <= 4; players++ {
		for _, each := range []int{0, 1, 2, 5, 52 / players} {
			for leader := range players {
				for trump := -1; trump <= 3; trump++ {
					hands := random.someHands(players, each)
					d, ok := impl.NewDeal(hands, leader, trump)
					want := impl.Deal{Hands: hands, Leader: leader, Trump: trump, Won: make([]int, players), Points: make([]int, players), Left: each}
					if !ok || !equalDeals(d, want) || !impl.IsDeal(d) {
						t.Errorf("NewDeal(%v, %d, %d) is %v, %t", hands, leader, trump, d, ok)
					}
					if impl.IsOver(d) != (each == 0) {
						t.Errorf("%v is over: %t", d, each != 0)
					}
				}
			}
		}
	}
}

func TestNewDealInvalid(t *testing.T) {
	for _, c := range []struct {
		hands         [][]int
		leader, trump int
	}{
		{nil, 0, 0},
		{[][]int{}, 0, -1},
		{[][]int{{1}}, 0, 0},
		{[][]int{{1}, {2}, {3}, {4}, {5}}, 0, 0},
		{[][]int{{}, {}, {}, {}, {}}, 0, 0},
		{[][]int{{1}, {2, 3}}, 0, 0},
		{[][]int{{1, 2}, {3}}, 0, 0},
		{[][]int{{}, {3}}, 0, 0},
		{[][]int{{1, 2}, {3, 4}, {5}}, 0, 0},
		{[][]int{{1, 2}, {3, 4}, {5, 6}, {7, 8, 9}}, 0, 0},
		{[][]int{{1}, {1}}, 0, 0},
		{[][]int{{1, 2}, {3, 1}}, 0, 0},
		{[][]int{{1, 1}, {3, 4}}, 0, 0},
		{[][]int{{1}, {52}}, 0, 0},
		{[][]int{{-1}, {2}}, 0, 0},
		{[][]int{{1}, {2}}, 2, 0},
		{[][]int{{1}, {2}}, -1, 0},
		{[][]int{{1}, {2}}, math.MaxInt, 0},
		{[][]int{{1}, {2}}, math.MinInt, 0},
		{[][]int{{1}, {2}, {3}, {4}}, 4, 0},
		{[][]int{{1}, {2}}, 0, 4},
		{[][]int{{1}, {2}}, 0, -2},
		{[][]int{{1}, {2}}, 0, math.MaxInt},
		{[][]int{{1}, {2}}, 0, math.MinInt},
		{[][]int{{}, {}}, 2, -1},
		{[][]int{{}, {}}, 0, 4},
	} {
		if d, ok := impl.NewDeal(c.hands, c.leader, c.trump); ok || !isZeroDeal(d) {
			t.Errorf("NewDeal(%v, %d, %d) is %v, %t", c.hands, c.leader, c.trump, d, ok)
		}
	}
	for _, l := range oddLists {
		if d, ok := impl.NewDeal([][]int{l, countUp(20, 20+len(l))}, 0, 0); ok || !isZeroDeal(d) {
			t.Errorf("with the hand %v the deal is %v", l, d)
		}
	}
}

func TestTurnOf(t *testing.T) {
	for _, c := range []struct {
		d    impl.Deal
		want int
	}{
		{impl.Deal{}, -1},
		{impl.Deal{Hands: [][]int{{}, {}}}, -1},
		{impl.Deal{Hands: [][]int{{}, {}}, Trick: []int{5}}, -1},
		{impl.Deal{Hands: [][]int{{1}, {2}}}, 0},
		{impl.Deal{Hands: [][]int{{1}, {2}}, Leader: 1}, 1},
		{impl.Deal{Hands: [][]int{{1}, {2}}, Leader: 2}, -1},
		{impl.Deal{Hands: [][]int{{1}, {2}}, Leader: -1}, -1},
		{impl.Deal{Hands: [][]int{{1}, {2}}, Leader: math.MaxInt, Trick: []int{5}}, -1},
		{impl.Deal{Hands: [][]int{{1}, {2}}, Leader: math.MinInt}, -1},
		{impl.Deal{Hands: [][]int{{1}, {2}}, Leader: 1, Trick: []int{5}}, 0},
		{impl.Deal{Hands: [][]int{{1}, {2}, {3}}, Leader: 1, Trick: []int{5}}, 2},
		{impl.Deal{Hands: [][]int{{1}, {2}, {3}}, Leader: 1, Trick: []int{5, 6}}, 0},
		{impl.Deal{Hands: [][]int{{1}, {2}, {3}}, Leader: 1, Trick: []int{5, 6, 7}}, 1},
		{impl.Deal{Hands: [][]int{{1}, {2}, {3}}, Leader: 2, Trick: []int{5, 6, 7, 8, 9}}, 1},
		{impl.Deal{Hands: [][]int{{}, {2}}}, 0},
		{impl.Deal{Hands: [][]int{{99, 99}}, Trick: []int{5}}, 0},
		{impl.Deal{Hands: [][]int{{1}, {}, {}, {}, {}, {}}, Leader: 5}, 5},
		{impl.Deal{Hands: [][]int{{1}, {}, {}, {}, {}, {}}, Leader: 5, Trick: []int{1}}, 0},
	} {
		if got := impl.TurnOf(c.d); got != c.want {
			t.Errorf("TurnOf(%v) is %d, not %d", c.d, got, c.want)
		}
	}
}

// oneTrick is a deal of three players in which the player 1 leads and the trump is 3.
func oneTrick(t *testing.T) impl.Deal {
	t.Helper()
	return newDeal(t, [][]int{hand("AsKd"), hand("2d3c"), hand("5s6d")}, 1, 3)
}

func checkPlayed(t *testing.T, d impl.Deal, c int, want impl.Deal) impl.Deal {
	t.Helper()
	got, ok := impl.PlayCard(d, c)
	if !ok || !equalDeals(got, want) || !impl.IsDeal(got) {
		t.Fatalf("PlayCard(%v, %d) is %v, %t, not %v", d, c, got, ok, want)
	}
	return got
}

func checkNotPlayed(t *testing.T, d impl.Deal, c int) {
	t.Helper()
	if got, ok := impl.PlayCard(d, c); ok || !equalDeals(got, d) {
		t.Errorf("PlayCard(%v, %d) is %v, %t", d, c, got, ok)
	}
}

func TestPlayCard(t *testing.T) {
	d := oneTrick(t)
	d = checkPlayed(t, d, 13, impl.Deal{Hands: [][]int{hand("AsKd"), hand("3c"), hand("5s6d")}, Leader: 1, Trump: 3, Trick: hand("2d"), Won: []int{0, 0, 0}, Points: []int{0, 0, 0}, Left: 2})
	for _, c := range append(hand("5s2d3cKdAs2c"), noCards...) {
		checkNotPlayed(t, d, c)
	}
	d = checkPlayed(t, d, 17, impl.Deal{Hands: [][]int{hand("AsKd"), hand("3c"), hand("5s")}, Leader: 1, Trump: 3, Trick: hand("2d6d"), Won: []int{0, 0, 0}, Points: []int{0, 0, 0}, Left: 2})
	checkNotPlayed(t, d, 51)
	d = checkPlayed(t, d, 24, impl.Deal{Hands: [][]int{hand("As"), hand("3c"), hand("5s")}, Leader: 0, Trump: 3, Won: []int{1, 0, 0}, Points: []int{4, 0, 0}, Left: 2})
	d = checkPlayed(t, d, 51, impl.Deal{Hands: [][]int{nil, hand("3c"), hand("5s")}, Leader: 0, Trump: 3, Trick: hand("As"), Won: []int{1, 0, 0}, Points: []int{4, 0, 0}, Left: 2})
	d = checkPlayed(t, d, 1, impl.Deal{Hands: [][]int{nil, nil, hand("5s")}, Leader: 0, Trump: 3, Trick: hand("As3c"), Won: []int{1, 0, 0}, Points: []int{4, 0, 0}, Left: 2})
	if impl.IsOver(d) {
		t.Errorf("%v is over", d)
	}
	d = checkPlayed(t, d, 42, impl.Deal{Hands: [][]int{nil, nil, nil}, Leader: 0, Trump: 3, Won: []int{2, 0, 0}, Points: []int{15, 0, 0}, Left: 2})
	if !impl.IsOver(d) || impl.TurnOf(d) != -1 {
		t.Errorf("%v is not over", d)
	}
	checkNotPlayed(t, d, 51)
}

// A trump wins the trick, and the player who has put it leads, also over the end of the row of players.
func TestPlayCardTrumpWins(t *testing.T) {
	d := newDeal(t, [][]int{hand("2h9s"), hand("Ah8s"), hand("3s7s"), hand("TdAd")}, 3, 2)
	d, n := impl.PlayAll(d, hand("Td2hAh3s"))
	if n != 4 || d.Leader != 1 || !slices.Equal(d.Won, []int{0, 1, 0, 0}) || !slices.Equal(d.Points, []int{0, 21, 0, 0}) {
		t.Errorf("%d cards were played: %v", n, d)
	}
}

// Hands without cards make a deal that is over at once.
func TestHandsWithoutCards(t *testing.T) {
	for _, hands := range [][][]int{{nil, nil}, {{}, {}, {}}, {nil, {}, nil, {}}} {
		d := newDeal(t, hands, 1, -1)
		if !impl.IsDeal(d) || !impl.IsOver(d) || impl.TurnOf(d) != -1 || d.Left != 0 {
			t.Errorf("%v is not over", d)
		}
		for c := -1; c <= 52; c++ {
			checkNotPlayed(t, d, c)
		}
		if got, n := impl.PlayAll(d, []int{5}); n != 0 || !equalDeals(got, d) {
			t.Errorf("%d cards were played: %v", n, got)
		}
	}
}

// changedDeals returns deals that are as d, but for one thing that makes them invalid.
func changedDeals(d impl.Deal) []impl.Deal {
	deals := []impl.Deal{{}}
	change := func(f func(d *impl.Deal)) {
		changed := cloneDeal(d)
		f(&changed)
		deals = append(deals, changed)
	}
	for _, n := range []int{-1, len(d.Hands), len(d.Hands) + 1, math.MinInt, math.MaxInt} {
		change(func(d *impl.Deal) { d.Leader = n })
	}
	for _, n := range []int{-2, 4, math.MinInt, math.MaxInt} {
		change(func(d *impl.Deal) { d.Trump = n })
	}
	for _, n := range []int{d.Left - 1, d.Left + 1, -1, 27, math.MinInt, math.MaxInt} {
		change(func(d *impl.Deal) { d.Left = n })
	}
	change(func(d *impl.Deal) { d.Won = d.Won[1:] })
	change(func(d *impl.Deal) { d.Won = append(d.Won, 0) })
	change(func(d *impl.Deal) { d.Won = nil })
	change(func(d *impl.Deal) { d.Points = d.Points[1:] })
	change(func(d *impl.Deal) { d.Points = append(d.Points, 0) })
	change(func(d *impl.Deal) { d.Points = nil })
	change(func(d *impl.Deal) { d.Hands = d.Hands[1:] })
	change(func(d *impl.Deal) { d.Hands = append(d.Hands, nil) })
	change(func(d *impl.Deal) { d.Hands = nil })
	for i := range d.Hands {
		change(func(d *impl.Deal) { d.Won[i]++ })
		change(func(d *impl.Deal) { d.Won[i]--; d.Left-- })
		change(func(d *impl.Deal) { d.Points[i] = -1 })
		change(func(d *impl.Deal) { d.Points[i] = math.MinInt })
		change(func(d *impl.Deal) { d.Hands[i] = append(d.Hands[i], 7) })
		if len(d.Hands[i]) > 0 {
			change(func(d *impl.Deal) { d.Hands[i] = d.Hands[i][1:] })
			change(func(d *impl.Deal) { d.Hands[i][0] = 52 })
			change(func(d *impl.Deal) { d.Hands[i][0] = d.Hands[(i+1)%len(d.Hands)][0] })
		}
	}
	for i := range d.Trick {
		change(func(d *impl.Deal) { d.Trick[i] = -1 })
		change(func(d *impl.Deal) { d.Trick[i] = d.Hands[len(d.Hands)-1][0] })
	}
	if len(d.Trick) > 0 {
		change(func(d *impl.Deal) { d.Trick = d.Trick[1:] })
		change(func(d *impl.Deal) { d.Leader = (d.Leader + 1) % len(d.Hands) })
	}
	change(func(d *impl.Deal) { d.Trick = append(d.Trick, 7) })
	return deals
}

func TestIsDeal(t *testing.T) {
	d := newDeal(t, [][]int{hand("AsKd2h"), hand("2d3c4h"), hand("5s6d6h"), hand("Ts9c8h")}, 3, -1)
	for _, c := range hand("Ts5c") {
		for _, changed := range changedDeals(d) {
			if impl.IsDeal(changed) {
				t.Errorf("%v is a deal", changed)
			}
			if impl.IsOver(changed) {
				t.Errorf("%v is over", changed)
			}
			for _, card := range slices.Concat(wholeDeck(), []int{-1, 52}) {
				checkNotPlayed(t, changed, card)
			}
		}
		if !impl.IsDeal(d) {
			t.Errorf("%v is no deal", d)
		}
		d, _ = impl.PlayCard(d, c)
	}
}

func TestIsDealEdges(t *testing.T) {
	two := func(won ...int) impl.Deal {
		return impl.Deal{Hands: [][]int{nil, nil}, Won: won, Points: []int{0, 0}, Left: won[0] + won[1]}
	}
	for _, d := range []impl.Deal{
		two(0, 0), two(26, 0), two(10, 16), two(0, 1),
		{Hands: [][]int{nil, nil}, Won: []int{1, 0}, Points: []int{math.MaxInt, math.MaxInt}, Left: 1, Leader: 1, Trump: 3},
		{Hands: [][]int{{5}, nil}, Trick: []int{6}, Leader: 1, Won: []int{0, 0}, Points: []int{0, 0}, Left: 1},
		{Hands: [][]int{nil, {5}, nil}, Trick: []int{6, 7}, Leader: 2, Won: []int{3, 4, 5}, Points: []int{0, 0, 0}, Left: 13},
	} {
		if !impl.IsDeal(d) {
			t.Errorf("%v is no deal", d)
		}
	}
	for _, d := range []impl.Deal{
		two(27, 0), two(14, 13), two(-1, 1), two(1, -1), two(math.MaxInt, 1), two(math.MaxInt, math.MaxInt),
		{Hands: [][]int{nil, nil, nil}, Won: []int{math.MaxInt, math.MaxInt, 2}, Points: []int{0, 0, 0}},
		{Hands: [][]int{nil, nil, nil, nil}, Won: []int{1 << 62, 1 << 62, 1 << 62, 1 << 62}, Points: []int{0, 0, 0, 0}},
		{Hands: [][]int{nil, nil}, Trick: []int{6}, Won: []int{0, 0}, Points: []int{0, 0}},
		{Hands: [][]int{nil, nil}, Trick: []int{6, 7}, Won: []int{0, 0}, Points: []int{0, 0}, Left: 1},
		{Hands: [][]int{{4}, {5}}, Trick: []int{6, 7}, Won: []int{0, 0}, Points: []int{0, 0}, Left: 2},
		{Hands: [][]int{nil, {5}}, Trick: []int{6}, Leader: 1, Won: []int{0, 0}, Points: []int{0, 0}, Left: 1},
		{Hands: [][]int{{1}}, Won: []int{0}, Points: []int{0}, Left: 1},
		{Hands: [][]int{{1}, {2}, {3}, {4}, {5}}, Won: make([]int, 5), Points: make([]int, 5), Left: 1},
		{Hands: [][]int{{5}, nil}, Trick: []int{5}, Leader: 1, Won: []int{0, 0}, Points: []int{0, 0}, Left: 1},
	} {
		if impl.IsDeal(d) || impl.IsOver(d) {
			t.Errorf("%v is a deal", d)
		}
	}
}

// Promise 12: when a deal is over, all tricks and the points of all cards were given, and each card was played.
func TestAllTricksAndPointsAreGiven(t *testing.T) {
	random := numbers{61}
	for range 150 {
		players := 2 + random.below(3)
		each := random.below(52/players + 1)
		hands := random.someHands(players, each)
		d := newDeal(t, hands, random.below(players), random.below(5)-1)
		start := cloneDeal(d)
		played := []int{}
		for !impl.IsOver(d) {
			who := impl.TurnOf(d)
			choices := impl.Choices(d.Hands[who], d.Trick)
			if len(choices) == 0 {
				t.Fatalf("nothing can be played: %v", d)
			}
			c := choices[random.below(len(choices))]
			for x := range 52 {
				if !slices.Contains(choices, x) && random.below(10) == 0 {
					checkNotPlayed(t, d, x)
				}
			}
			next, ok := impl.PlayCard(d, c)
			if !ok || !impl.IsDeal(next) {
				t.Fatalf("PlayCard(%v, %d) is %v, %t", d, c, next, ok)
			}
			checkStep(t, d, who, c, next)
			played = append(played, c)
			d = next
		}
		tricks, points := 0, 0
		for i := range players {
			tricks += d.Won[i]
			points += d.Points[i]
		}
		if tricks != each || points != impl.TrickPoints(played) || !impl.SameCards(played, slices.Concat(hands...)) {
			t.Errorf("of %v, %d tricks and %d points were given", hands, tricks, points)
		}
		if got, n := impl.PlayAll(start, played); n != len(played) || !equalDeals(got, d) {
			t.Errorf("played again, %d cards and %v", n, got)
		}
	}
}

// checkStep checks what became of a deal when a card was played.
func checkStep(t *testing.T, d impl.Deal, who int, c int, next impl.Deal) {
	t.Helper()
	want := cloneDeal(d)
	want.Hands[who] = slices.DeleteFunc(want.Hands[who], func(x int) bool { return x == c })
	want.Trick = append(want.Trick, c)
	if len(want.Trick) == len(want.Hands) {
		winner := (d.Leader + impl.WinnerOf(want.Trick, d.Trump)) % len(want.Hands)
		want.Won[winner]++
		want.Points[winner] += impl.TrickPoints(want.Trick)
		want.Leader = winner
		want.Trick = nil
	}
	if !equalDeals(next, want) {
		t.Errorf("PlayCard(%v, %d) is %v, not %v", d, c, next, want)
	}
}

func TestPlayAll(t *testing.T) {
	d := oneTrick(t)
	for _, c := range []struct {
		s    string
		want int
	}{
		{"", 0}, {"2d", 1}, {"2d6dKdAs3c5s", 6}, {"2d5sKd", 1}, {"Kd2d", 0}, {"2d6dKdAs3c5s2d", 6}, {"2d6dAsKd", 2},
	} {
		cards := hand(c.s)
		want := d
		for _, card := range cards[:c.want] {
			want, _ = impl.PlayCard(want, card)
		}
		got, n := impl.PlayAll(d, cards)
		if n != c.want || !equalDeals(got, want) {
			t.Errorf("PlayAll of %s is %v, %d", c.s, got, n)
		}
	}
	for _, changed := range changedDeals(d) {
		for _, cards := range [][]int{nil, hand("2d"), {52}} {
			if got, n := impl.PlayAll(changed, cards); n != 0 || !equalDeals(got, changed) {
				t.Errorf("PlayAll(%v, %v) is %v, %d", changed, cards, got, n)
			}
		}
	}
}

// rowsOf returns all slices of a deal.
func rowsOf(d impl.Deal) [][]int {
	return append(slices.Clone(d.Hands), d.Trick, d.Won, d.Points)
}

func TestPlaysKeepArguments(t *testing.T) {
	d := oneTrick(t)
	deals := []impl.Deal{d, {}}
	for _, c := range hand("2d6dKdAs3c5s") {
		d, _ = impl.PlayCard(d, c)
		deals = append(deals, d)
	}
	for _, d := range deals {
		dealOf := func(rows [][]int) impl.Deal {
			players := len(d.Hands)
			return impl.Deal{Hands: rows[:players], Leader: d.Leader, Trump: d.Trump, Trick: rows[players], Won: rows[players+1], Points: rows[players+2], Left: d.Left}
		}
		for c := range 52 {
			keepsRows(t, "PlayCard", rowsOf(d), func(rows [][]int) [][]int { next, _ := impl.PlayCard(dealOf(rows), c); return rowsOf(next) })
		}
		for _, s := range []string{"", "2d", "2d6d", "6d", "Kd", "As", "3c", "5s"} {
			keepsRows(t, "PlayAll", rowsOf(d), func(rows [][]int) [][]int { next, _ := impl.PlayAll(dealOf(rows), hand(s)); return rowsOf(next) })
		}
		keepsRows(t, "TurnOf and others", rowsOf(d), func(rows [][]int) [][]int {
			impl.TurnOf(dealOf(rows))
			impl.IsDeal(dealOf(rows))
			impl.IsOver(dealOf(rows))
			return nil
		})
	}
	keepsRows(t, "NewDeal", [][]int{{1, 2}, {3, 4}}, func(rows [][]int) [][]int { d, _ := impl.NewDeal(rows, 0, 1); return rowsOf(d) })
	keepsRows(t, "NewDeal", [][]int{{}, {}}, func(rows [][]int) [][]int { d, _ := impl.NewDeal(rows, 0, 1); return rowsOf(d) })
	cards, check := guardInts(t, "PlayAll", hand("2d6dKd"))
	impl.PlayAll(oneTrick(t), cards)
	check()
}
