package tests

import (
	"math"
	"strings"
	"testing"

	"loop.example/g03010/impl"
)

// noCards are numbers that are no cards, some of them a card modulo a power of two.
var noCards = []int{-1, -2, -13, -52, 52, 53, 64, 99, 255, 256, 260, 256 + 51, 1 << 32, -256, math.MinInt, math.MaxInt}

// deckTexts are the texts of the cards from 0 on.
var deckTexts = strings.Fields(`
	2c 3c 4c 5c 6c 7c 8c 9c Tc Jc Qc Kc Ac
	2d 3d 4d 5d 6d 7d 8d 9d Td Jd Qd Kd Ad
	2h 3h 4h 5h 6h 7h 8h 9h Th Jh Qh Kh Ah
	2s 3s 4s 5s 6s 7s 8s 9s Ts Js Qs Ks As`)

func TestCardNumbers(t *testing.T) {
	if impl.DeckCards != 52 || impl.Suits != 4 || impl.Ranks != 13 {
		t.Errorf("%d cards of %d suits and %d ranks", impl.DeckCards, impl.Suits, impl.Ranks)
	}
	c := 0
	for suit := range 4 {
		for rank := range 13 {
			if !impl.IsCard(c) || impl.SuitOf(c) != suit || impl.RankOf(c) != rank {
				t.Errorf("the card %d: %t, suit %d, rank %d", c, impl.IsCard(c), impl.SuitOf(c), impl.RankOf(c))
			}
			if impl.IsRed(c) != (suit == 1 || suit == 2) {
				t.Errorf("the card %d is red: %t", c, impl.IsRed(c))
			}
			c++
		}
	}
}

func TestNoCards(t *testing.T) {
	for _, c := range noCards {
		if impl.IsCard(c) || impl.SuitOf(c) != -1 || impl.RankOf(c) != -1 || impl.CardText(c) != "" || impl.IsRed(c) {
			t.Errorf("%d: %t, suit %d, rank %d, %q, red %t", c, impl.IsCard(c), impl.SuitOf(c), impl.RankOf(c), impl.CardText(c), impl.IsRed(c))
		}
	}
}

// Promise 4: every card has a text of its own, from which it is read.
func TestCardTexts(t *testing.T) {
	met := map[string]int{}
	for c := range 52 {
		s := impl.CardText(c)
		if s != deckTexts[c] || impl.ParseCard(s) != c {
			t.Errorf("the card %d is %q, read again %d", c, s, impl.ParseCard(s))
		}
		if other, ok := met[s]; ok {
			t.Errorf("the cards %d and %d have the same text", other, c)
		}
		met[s] = c
	}
}

func TestParseCardInvalid(t *testing.T) {
	for _, s := range []string{
		"", "A", "s", "c", "2", "1c", "0c", "10c", "Acc", "AAc", "2c ", " 2c", "2c2c", "2c3c",
		"ac", "AC", "tc", "TC", "jd", "kh", "As\x00", "Ax", "xs", "sA", "c2", "cc", "22", "??", "--",
		"\x002", "2\x00", "\u00e9", "\xff\xff", "A\u2660", "2\xe9", "\u0662c",
	} {
		if got := impl.ParseCard(s); got != -1 {
			t.Errorf("ParseCard(%q) is %d", s, got)
		}
	}
}

// Of all texts of two bytes, just the 52 of the cards are read.
func TestParseCardEveryText(t *testing.T) {
	want := map[string]int{}
	for c, s := range deckTexts {
		want[s] = c
	}
	for a := range 256 {
		for b := range 256 {
			s := string([]byte{byte(a), byte(b)})
			c, ok := want[s]
			if !ok {
				c = -1
			}
			if got := impl.ParseCard(s); got != c {
				t.Errorf("ParseCard(%q) is %d, not %d", s, got, c)
			}
		}
	}
}
