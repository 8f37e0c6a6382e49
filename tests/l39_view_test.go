package tests

import (
	"fmt"
	"math"
	"slices"
	"strings"
	"testing"

	"loop.example/g03010/impl"
)

// slowJoin writes what text gives for the elements with a sign between them.
func slowJoin[T any](l []T, between string, text func(T) string) string {
	all := ""
	for i, x := range l {
		if i > 0 {
			all += between
		}
		all += text(x)
	}
	return all
}

func numberText(n int) string {
	return fmt.Sprint(n)
}

func roundText(points []int) string {
	return slowJoin(points, ",", numberText)
}

func TestNumbersOfNothing(t *testing.T) {
	for _, rows := range [][][]int{nil, {}} {
		if got := impl.FormatMelds(rows); got != "-" {
			t.Errorf("FormatMelds(%v) is %q", rows, got)
		}
		if got := impl.FormatSheet(rows); got != "-" {
			t.Errorf("FormatSheet(%v) is %q", rows, got)
		}
	}
	for _, l := range [][]int{nil, {}} {
		if got := impl.FormatNumbers(l); got != "-" {
			t.Errorf("FormatNumbers(%v) is %q", l, got)
		}
		if got := impl.FormatKey(l); got != "-" {
			t.Errorf("FormatKey(%v) is %q", l, got)
		}
	}
	if got := impl.FormatTable(impl.Table{}); got != "0 0 0 off" {
		t.Errorf("the table of nothing is %q", got)
	}
}

func TestFormatNumbers(t *testing.T) {
	for _, c := range []struct {
		l    []int
		want string
	}{
		{[]int{0}, "0"}, {[]int{3, -1}, "3 -1"}, {[]int{-1}, "-1"}, {[]int{7, 7, 7}, "7 7 7"}, {[]int{math.MinInt, math.MaxInt}, "-9223372036854775808 9223372036854775807"}, {countUp(8, 12), "8 9 10 11"},
	} {
		if got := impl.FormatNumbers(c.l); got != c.want {
			t.Errorf("FormatNumbers(%v) is %q, not %q", c.l, got, c.want)
		}
	}
}

func TestFormatMelds(t *testing.T) {
	for _, c := range []struct {
		l    [][]int
		want string
	}{
		{[][]int{{0, 1, 2}, {0, 13, 26}}, "2c3c4c 2c2d2h"}, {[][]int{hand("AsAhAd")}, "AsAhAd"}, {[][]int{nil}, "-"}, {[][]int{nil, {5}, {}}, "- 7c -"}, {[][]int{{52, -1, 0}, {math.MaxInt}}, "??2c ?"},
	} {
		if got := impl.FormatMelds(c.l); got != c.want {
			t.Errorf("FormatMelds(%v) is %q, not %q", c.l, got, c.want)
		}
	}
}

func TestFormatSheet(t *testing.T) {
	for _, c := range []struct {
		rounds [][]int
		want   string
	}{
		{[][]int{{3, -3}, {0, 0}}, "3,-3 0,0"}, {[][]int{{1}}, "1"}, {[][]int{{1, 2, 3}, {4}, {-5, 6}}, "1,2,3 4 -5,6"}, {[][]int{nil}, ""}, {[][]int{nil, {7}, {}}, " 7 "}, {[][]int{{math.MinInt, math.MaxInt}}, "-9223372036854775808,9223372036854775807"},
	} {
		if got := impl.FormatSheet(c.rounds); got != c.want {
			t.Errorf("FormatSheet(%v) is %q, not %q", c.rounds, got, c.want)
		}
	}
}

func TestFormatKey(t *testing.T) {
	for _, c := range []struct{ hand, want string }{
		{"2c2d9cTcAc", "pair:0,12,8,7"}, {"2c3c4c5c6c", "straightflush:4"}, {"2c3c4c5cAc", "straightflush:3"}, {"TcJcQcKcAc", "straightflush:12"}, {"2c3d4c5c6c", "straight:4"}, {"2c3c4c5c7c", "flush:5,3,2,1,0"}, {"2c3d4c5c7c", "high:5,3,2,1,0"}, {"2c2d3c3d4c", "two:1,0,2"}, {"2c2d2h3d4c", "three:0,2,1"}, {"2c2d2h3d3c", "full:0,1"}, {"2c2d2h2s3c", "four:0,1"},
	} {
		if got := impl.FormatKey(hand(c.hand)); got != c.want {
			t.Errorf("FormatKey of %s is %q, not %q", c.hand, got, c.want)
		}
	}
	for _, l := range append([][]int{{0}, {0, 1, 2, 3}, {0, 1, 2, 3, 4, 5}, {0, 0, 1, 2, 3}, {0, 1, 2, 3, 52}, {-1, 0, 1, 2, 3}, wholeDeck()}, oddLists...) {
		if got := impl.FormatKey(l); got != "-" {
			t.Errorf("FormatKey(%v) is %q", l, got)
		}
	}
}

func TestFormatTable(t *testing.T) {
	for _, c := range []struct {
		x    impl.Table
		want string
	}{
		{easyTable(), "3 1 1 on"}, {newTable(t, easyRules()), "0 0 0 off"}, {impl.Table{On: true}, "0 0 0 on"}, {impl.Table{Seals: make([]int, 12), Record: make([]int, 345), Sheet: make([][]int, 67), Deck: []int{1}}, "12 345 67 off"},
	} {
		if got := impl.FormatTable(c.x); got != c.want {
			t.Errorf("FormatTable(%v) is %q, not %q", c.x, got, c.want)
		}
	}
}

// Promise 39: views show all there is, in order, each once.
func TestViewsShowAllThereIs(t *testing.T) {
	random := numbers{601}
	for range 200 {
		l, melds := []int{}, [][]int{}
		for range 1 + random.below(9) {
			l = append(l, random.below(3000)-1500)
			melds = append(melds, random.someHand(1+random.below(5)))
		}
		if got, want := impl.FormatNumbers(l), slowJoin(l, " ", numberText); got != want {
			t.Errorf("FormatNumbers(%v) is %q, not %q", l, got, want)
		}
		if got, want := impl.FormatMelds(melds), slowJoin(melds, " ", slowHandText); got != want {
			t.Errorf("FormatMelds(%v) is %q, not %q", melds, got, want)
		}
		sheet := random.someSheet(2+random.below(5), 1+random.below(5))
		if got, want := impl.FormatSheet(sheet), slowJoin(sheet, " ", roundText); got != want {
			t.Errorf("FormatSheet(%v) is %q, not %q", sheet, got, want)
		}
		five := random.someHand(5)
		key := impl.KeyOf(five)
		if got, want := impl.FormatKey(five), impl.KindName(key[0])+":"+roundText(key[1:]); got != want {
			t.Errorf("FormatKey(%v) is %q, not %q", five, got, want)
		}
		x := random.someTable(t)
		words := strings.Fields(impl.FormatTable(x))
		want := []string{numberText(len(x.Seals)), numberText(len(x.Record)), numberText(len(x.Sheet)), map[bool]string{true: "on", false: "off"}[x.On]}
		if !slices.Equal(words, want) {
			t.Errorf("FormatTable(%v) has %q, not %q", x, words, want)
		}
	}
}

func TestViewsKeepArguments(t *testing.T) {
	keepsRows(t, "FormatMelds and others", [][]int{{3, -3}, {0, 1, 2, 3, 4}}, func(rows [][]int) [][]int {
		impl.FormatMelds(rows)
		impl.FormatSheet(rows)
		impl.FormatNumbers(rows[1])
		impl.FormatKey(rows[1])
		return nil
	})
	keepsTable(t, "FormatTable", easyTable(), func(x impl.Table) impl.Table { impl.FormatTable(x); return impl.Table{} })
}
