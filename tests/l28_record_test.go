package tests

import (
	"math"
	"slices"
	"strings"
	"testing"

	"loop.example/g03010/impl"
)

func slowReplayMove(g impl.Game, move int) (impl.Game, bool) {
	if move == -1 {
		return slowTakeCards(g)
	}
	return slowPlayOn(g, move)
}

func slowReplayed(g impl.Game, record []int) (impl.Game, int) {
	current := cloneGame(g)
	for made, move := range record {
		next, ok := slowReplayMove(current, move)
		if !ok {
			return current, made
		}
		current = next
	}
	return current, len(record)
}

// slowRecordOut writes down the moves until the end, one by one.
func slowRecordOut(g impl.Game, kinds []int) []int {
	record := []int{}
	for slowIsGame(g) && !slowIsEnded(g) {
		move := slowChoice(g, slowKind(kinds, g.Turn))
		record = append(record, move)
		g, _ = slowReplayMove(g, move)
	}
	return record
}

func slowRecordText(record []int) string {
	if len(record) == 0 {
		return "-"
	}
	text := ""
	for _, move := range record {
		switch {
		case move == -1:
			text += "*"
		case move >= 0 && move < 52:
			text += deckTexts[move]
		default:
			text += "?"
		}
	}
	return text
}

func checkReplayed(t *testing.T, g impl.Game, record []int) (impl.Game, int) {
	t.Helper()
	got, made := impl.Replayed(g, record)
	if want, n := slowReplayed(g, record); made != n || !sameGames(got, want) {
		t.Errorf("Replayed(%v, %v) is %v, %d, not %v, %d", g, record, got, made, want, n)
	}
	return got, made
}

func TestReplayMove(t *testing.T) {
	random := numbers{281}
	games := changedGames(newGame(t, easyRules(), wholeDeck()))
	for range 40 {
		games = append(games, random.someGame(t))
	}
	for _, g := range games {
		for move := -3; move <= 53; move++ {
			got, ok := impl.ReplayMove(g, move)
			if want, may := slowReplayMove(g, move); ok != may || !sameGames(got, want) {
				t.Errorf("ReplayMove(%v, %d) is %v, %t, not %v", g, move, got, ok, want)
			}
		}
		for _, move := range []int{math.MinInt, math.MaxInt, 99} {
			if got, ok := impl.ReplayMove(g, move); ok || !sameGames(got, g) {
				t.Errorf("ReplayMove(%v, %d) is %v, %t", g, move, got, ok)
			}
		}
	}
}

// A record that fails at a move stops there, whatever comes behind it.
func TestRecordsThatStopEarly(t *testing.T) {
	g := newGame(t, easyRules(), wholeDeck())
	for _, c := range []struct {
		record            []int
		made, turn, moves int
	}{
		{nil, 0, 0, 0},
		{[]int{}, 0, 0, 0},
		{[]int{6}, 1, 1, 1},
		{[]int{-1}, 1, 1, 1},
		{[]int{6, -1, 5, 12}, 4, 2, 4},
		{[]int{6, 6, 5}, 1, 1, 1},
		{[]int{0}, 0, 0, 0},
		{[]int{0, 6, -1}, 0, 0, 0},
		{[]int{-2, 6, -1}, 0, 0, 0},
		{[]int{6, -2, -1}, 1, 1, 1},
		{[]int{6, 52, -1}, 1, 1, 1},
		{[]int{-1, -1, -1, 99}, 3, 0, 3},
		{[]int{-1, -1, -1, math.MinInt}, 3, 0, 3},
		{[]int{6, -1, math.MaxInt, 5}, 2, 2, 2},
	} {
		got, made := checkReplayed(t, g, c.record)
		if made != c.made || got.Turn != c.turn || got.Moves != c.moves {
			t.Errorf("Replayed with %v is %v, %d", c.record, got, made)
		}
	}
}

// Behind the end of a game no move succeeds; a game that is none stays as it is.
func TestRecordsOfGamesThatAreOver(t *testing.T) {
	g := newGame(t, oneEach(2, 3), wholeDeck())
	for _, c := range []struct {
		record []int
		made   int
	}{
		{[]int{0, -1}, 1}, {[]int{0, 1}, 1}, {[]int{-1, 1, -1}, 2}, {[]int{-1, -1, -1}, 3}, {[]int{-1, -1, -1, -1}, 3}, {[]int{-1, -1, 0, -1}, 3},
	} {
		got, made := checkReplayed(t, g, c.record)
		if made != c.made || !impl.IsEnded(got) {
			t.Errorf("Replayed with %v is %v, %d", c.record, got, made)
		}
	}
	for _, g := range changedGames(newGame(t, easyRules(), wholeDeck())) {
		for _, record := range [][]int{nil, {-1}, {6, -1, 5, 12}} {
			if got, made := impl.Replayed(g, record); made != 0 || !sameGames(got, g) {
				t.Errorf("Replayed(%v, %v) is %v, %d", g, record, got, made)
			}
		}
		if got := impl.RecordOut(g, []int{0, 1, 2}); len(got) != 0 {
			t.Errorf("RecordOut(%v) is %v", g, got)
		}
	}
}

func TestRecordOut(t *testing.T) {
	g := newGame(t, oneEach(2, 3), wholeDeck())
	for _, c := range []struct{ kinds, want []int }{
		{[]int{0, 0}, []int{0}}, {nil, []int{-1, -1, -1}}, {[]int{}, []int{-1, -1, -1}}, {[]int{3, 1}, []int{-1, 1}}, {[]int{3, 3}, []int{-1, -1, -1}}, {[]int{9, -1}, []int{-1, -1, -1}}, {[]int{2, 1, 0}, []int{0}}, {[]int{3}, []int{-1, -1, -1}},
	} {
		if got := impl.RecordOut(g, c.kinds); !slices.Equal(got, c.want) {
			t.Errorf("RecordOut with %v is %v, not %v", c.kinds, got, c.want)
		}
	}
	won, _ := impl.PlayOn(g, 0)
	if got := impl.RecordOut(won, []int{0, 0}); len(got) != 0 {
		t.Errorf("after the end, RecordOut is %v", got)
	}
}

// Promise 28: the record of a game that was played to its end plays it again, and each part of it the game up to there.
func TestRecordsPlayGamesAgain(t *testing.T) {
	random := numbers{283}
	moves, won := 0, 0
	for range 120 {
		g, kinds := random.someGame(t), random.someKinds()
		record := impl.RecordOut(g, kinds)
		if want := slowRecordOut(g, kinds); !slices.Equal(record, want) {
			t.Fatalf("RecordOut(%v, %v) is %v, not %v", g, kinds, record, want)
		}
		last := impl.PlayOut(g, kinds)
		got, made := impl.Replayed(g, record)
		if made != len(record) || !sameGames(got, last) || made != last.Moves-g.Moves {
			t.Errorf("Replayed(%v, %v) is %v, %d, not %v", g, record, got, made, last)
		}
		if got, made := impl.Replayed(g, append(record, -1, 0, 5)); made != len(record) || !sameGames(got, last) {
			t.Errorf("behind the end of %v, %d moves were made", last, made-len(record))
		}
		read, ok := impl.ParseRecord(impl.RecordText(record))
		if !ok || !slices.Equal(read, record) {
			t.Errorf("%q is read as %v, %t", impl.RecordText(record), read, ok)
		}
		at := random.below(len(record) + 1)
		half, made := checkReplayed(t, g, record[:at])
		if made != at || !slices.Equal(impl.RecordOut(half, kinds), record[at:]) {
			t.Errorf("after %d moves of %v, the others are %v", at, record, impl.RecordOut(half, kinds))
		}
		moves += len(record)
		if impl.Winner(last) >= 0 {
			won++
		}
	}
	if moves < 1000 || won < 20 {
		t.Errorf("%d moves and %d games that were won are too few", moves, won)
	}
}

// Records with a move that was changed stop where it fails, or go on in another way.
func TestRecordsWithOtherMoves(t *testing.T) {
	random := numbers{293}
	stopped := 0
	for range 150 {
		g := random.someGame(t)
		record := impl.RecordOut(g, []int{0, 1, 2, 0, 1, 2})
		if len(record) == 0 {
			continue
		}
		record[random.below(len(record))] = random.below(55) - 2
		if _, made := checkReplayed(t, g, record); made < len(record) {
			stopped++
		}
	}
	if stopped < 20 {
		t.Errorf("only %d records stopped early", stopped)
	}
}

func TestRecordText(t *testing.T) {
	for _, c := range []struct {
		record []int
		want   string
	}{
		{nil, "-"}, {[]int{}, "-"}, {[]int{6, -1, 51, 52}, "8c*As?"}, {[]int{-1}, "*"}, {[]int{-1, -1}, "**"}, {[]int{-2, 0, 0}, "?2c2c"}, {[]int{math.MinInt, math.MaxInt, -1}, "??*"}, {wholeDeck(), strings.Join(deckTexts, "")},
	} {
		if got := impl.RecordText(c.record); got != c.want || got != slowRecordText(c.record) {
			t.Errorf("RecordText(%v) is %q, not %q", c.record, got, c.want)
		}
	}
}

func TestParseRecord(t *testing.T) {
	for s, want := range map[string][]int{"-": {}, "*": {-1}, "8c**As": {6, -1, -1, 51}, "2c2c": {0, 0}, "***": {-1, -1, -1}, strings.Join(deckTexts, ""): wholeDeck(), "*As*": {-1, 51, -1}} {
		if got, ok := impl.ParseRecord(s); !ok || !slices.Equal(got, want) {
			t.Errorf("ParseRecord(%q) is %v, %t, not %v", s, got, ok, want)
		}
	}
	for _, s := range []string{"", " ", "A", "s", "8c?", "?", "--", "*-", "-*", "-8c", "8c-", "8C", "8c As", "8c ", " 8c", "*A", "8c*A", "8cA", "A*s", "Asx", "10c", "1c", "8c\n", "\x00", "8c\xff", "Äs"} {
		if got, ok := impl.ParseRecord(s); ok || len(got) != 0 {
			t.Errorf("ParseRecord(%q) is %v, %t", s, got, ok)
		}
	}
}

// Every text of up to five signs is read just if it is the text of a record.
func TestAllShortRecordTexts(t *testing.T) {
	signs := []string{"8", "c", "*", "-", "?", "A", "s", " ", "C"}
	texts := []string{""}
	for range 5 {
		longer := []string{""}
		for _, s := range texts {
			for _, sign := range signs {
				longer = append(longer, s+sign)
			}
		}
		texts = longer
	}
	read := 0
	for _, s := range texts {
		got, ok := impl.ParseRecord(s)
		if !ok && len(got) != 0 || ok && slowRecordText(got) != s {
			t.Errorf("ParseRecord(%q) is %v, %t", s, got, ok)
		}
		if ok {
			read++
		}
	}
	// A text is read just if the four cards and the stars make it up.
	if want := countRecordTexts(5) + 1; read != want {
		t.Errorf("%d of the texts are read, not %d", read, want)
	}
}

// countRecordTexts counts the texts of 1 to most signs that are made of stars and of four cards.
func countRecordTexts(most int) int {
	count := []int{1, 1}
	sum := 1
	for len(count) <= most {
		next := count[len(count)-1] + 4*count[len(count)-2]
		count = append(count, next)
		sum += next
	}
	return sum
}

func TestLongRecords(t *testing.T) {
	s := strings.Repeat("8c*", 2000)
	got, ok := impl.ParseRecord(s)
	if !ok || len(got) != 4000 || impl.RecordText(got) != s {
		t.Errorf("a long record is read as %d moves, %t", len(got), ok)
	}
	if got, ok := impl.ParseRecord(s + "8"); ok || len(got) != 0 {
		t.Errorf("a long record with half a card is read as %d moves, %t", len(got), ok)
	}
}

func TestRecordsKeepArguments(t *testing.T) {
	random := numbers{307}
	games := changedGames(newGame(t, easyRules(), wholeDeck()))[:10]
	for range 30 {
		games = append(games, random.someGame(t))
	}
	for _, g := range games {
		kinds := random.someKinds()
		record := impl.RecordOut(g, []int{0, 1, 2, 0, 1, 2})
		for _, l := range [][]int{nil, {-2}, {-1}, record[:len(record)/2], record} {
			keepsRows(t, "Replayed", append(rowsOfGame(g), l), func(rows [][]int) [][]int {
				last := len(rows) - 1
				next, _ := impl.Replayed(gameOf(g, rows[:last]), rows[last])
				return rowsOfGame(next)
			})
			keepsInts(t, "RecordText", l, func(l []int) []int {
				read, _ := impl.ParseRecord(impl.RecordText(l))
				return read
			})
		}
		keepsRows(t, "RecordOut", append(rowsOfGame(g), kinds), func(rows [][]int) [][]int {
			last := len(rows) - 1
			return [][]int{impl.RecordOut(gameOf(g, rows[:last]), rows[last])}
		})
		for _, move := range []int{-2, -1, impl.ChoiceOf(g, 0)} {
			keepsGame(t, "ReplayMove", g, func(g impl.Game) impl.Game {
				next, _ := impl.ReplayMove(g, move)
				return next
			})
		}
	}
}
