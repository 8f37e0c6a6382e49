package tests

import (
	"fmt"
	"slices"
	"strconv"
	"strings"
	"testing"

	"loop.example/g03010/impl"
)

// slowNumber reads the decimal form of a number that is not too great.
func slowNumber(word string) int {
	n, err := strconv.Atoi(word)
	if err != nil || n < 0 || n > 1000000000000 || fmt.Sprint(n) != word {
		return -1
	}
	return n
}

// slowHand reads two letters for each card, or "-"; nil if that is no hand.
func slowHand(word string) []int {
	l := []int{}
	for rest := word; rest != "" && rest != "-"; rest = rest[2:] {
		if len(rest) < 2 || !slices.Contains(deckTexts, rest[:2]) || slices.Contains(l, slices.Index(deckTexts, rest[:2])) {
			return nil
		}
		l = append(l, slices.Index(deckTexts, rest[:2]))
	}
	if word != "-" && len(word) != 2*len(l) || word == "" {
		return nil
	}
	return l
}

// slowChange takes the step of a line that changes a table; no output if it is none.
func slowChange(x impl.Table, words []string) (impl.Table, string) {
	done := func(next impl.Table, ok bool) (impl.Table, string) {
		if ok {
			return next, "ok"
		}
		return x, "no"
	}
	numbers := []int{}
	for _, word := range words[1:] {
		numbers = append(numbers, slowNumber(word))
	}
	bad := slices.Contains(numbers, -1)
	switch name := fmt.Sprint(words[0], " ", len(numbers)); {
	case name == "new 0":
		return impl.Table{Rules: easyRules()}, "ok"
	case name == "take 0":
		return done(impl.StepTake(x))
	case name == "settle 0":
		return done(impl.StepSettle(x))
	case name == "play 1" && slices.Contains(deckTexts, words[1]):
		return done(impl.StepPlay(x, slices.Index(deckTexts, words[1])))
	case name == "auto 1" && !bad && slowChoice(x.Game, numbers[0]) < 0:
		return done(impl.StepTake(x))
	case name == "auto 1" && !bad:
		return done(impl.StepPlay(x, slowChoice(x.Game, numbers[0])))
	case name == "begin 3" && !bad:
		next, ok := x, true
		for _, e := range impl.DealEvents(easyRules(), numbers, 5) {
			may := false
			next, may = impl.ApplyEvent(next, e)
			ok = ok && may
		}
		return done(next, ok)
	}
	return x, ""
}

// slowTell tells what a line asks for; nothing if it asks for nothing.
func slowTell(x impl.Table, words []string) string {
	or := func(text string, other string) string {
		if text == "" {
			return other
		}
		return text
	}
	switch name := fmt.Sprint(words[0], " ", len(words)-1); {
	case name == "rules 0":
		return or(impl.RulesText(x.Rules), "-")
	case name == "table 0":
		return impl.FormatTable(x)
	case name == "game 0":
		return or(slowGameText(x.Game), "-")
	case name == "can 0":
		return slowHandText(slowPlayable(x.Game))
	case name == "record 0":
		return slowRecordText(x.Record)
	case name == "sheet 0":
		return or(impl.FormatSheet(x.Sheet), "-")
	case name == "audit 0":
		return or(slowFault(x), "ok")
	case name == "see 1" && slowNumber(words[1]) >= 0:
		p, ok := slowPeek(x.Game, slowNumber(words[1]))
		if !ok {
			return "no"
		}
		return slowPeekText(p)
	case name == "count 1":
		if p, ok := impl.ParsePattern(words[1]); ok {
			return fmt.Sprint(len(slowMatchSet(p)))
		}
	case len(words) > 1 && slowHand(words[1]) != nil:
		return slowTellHand(name, slowHand(words[1]), words)
	}
	return ""
}

func slowTellHand(name string, l []int, words []string) string {
	switch {
	case name == "melds 1":
		return impl.FormatMelds(impl.MeldsIn(l))
	case name == "left 1":
		return fmt.Sprint(impl.LeftOver(l))
	case name == "kind 1":
		return impl.FormatKey(l)
	case name == "wins 2" && slowNumber(words[2]) >= 0:
		return fmt.Sprint(impl.WinnerOf(l, slowNumber(words[2])))
	}
	return ""
}

func slowConsole(x impl.Table, line string) (impl.Table, string) {
	words := strings.FieldsFunc(line, func(r rune) bool { return r == ' ' })
	if len(line) > 200 || len(words) == 0 {
		return x, "what"
	}
	if text := slowTell(x, words); text != "" {
		return x, text
	}
	next, text := slowChange(x, words)
	if text == "" {
		return x, "what"
	}
	return next, text
}

// checkLine executes a line and returns what it makes of the table.
func checkLine(t *testing.T, x impl.Table, line string) (impl.Table, string) {
	t.Helper()
	got, output := impl.ConsoleLine(x, line)
	want, text := slowConsole(x, line)
	if output != text || !sameTables(got, want) {
		t.Errorf("%q of %v gives %q and %v, not %q and %v", line, x, output, got, text, want)
	}
	return got, output
}

// checkOutputs executes lines from the zero table on; each line has its output behind "=> ".
func checkOutputs(t *testing.T, script string) {
	t.Helper()
	lines, want := []string{}, []string{}
	for _, row := range strings.Split(strings.TrimSpace(script), "\n") {
		line, output, _ := strings.Cut(strings.TrimLeft(row, "\t"), "=> ")
		lines, want = append(lines, line), append(want, output)
	}
	var x impl.Table
	for i, line := range lines {
		next, output := checkLine(t, x, line)
		if output != want[i] {
			t.Errorf("%q gives %q, not %q", line, output, want[i])
		}
		x = next
	}
	if got, ok := impl.RunConsole(strings.Join(lines, "\n")); !ok || !slices.Equal(got, want) {
		t.Errorf("RunConsole gives %q, %t, not %q", got, ok, want)
	}
}

func TestConsoleOfATable(t *testing.T) {
	checkOutputs(t, `
	table=> 0 0 0 off
	rules=> -
	game=> -
	can=> -
	record=> -
	sheet=> -
	audit=> sheet
	see 0=> no
	take=> no
	auto 0=> no
	settle=> no
	play Ac=> no
	begin 1 2 3=> no
	new=> ok
	rules=> players=3 each=5 match=both wild=8 skip=A take=1 limit=200
	table=> 0 0 0 off
	audit=> ok
	take=> no
	begin 1 2 3=> ok
	table=> 3 0 0 on
	audit=> ok
	begin 1 2 3=> no
	take=> ok
	record=> *
	table=> 3 1 0 on
	settle=> no
	see 3=> no
	new=> ok
	table=> 0 0 0 off`)
}

// A game is played by the console alone, until it is settled.
func TestConsoleGame(t *testing.T) {
	x, output := checkLine(t, impl.Table{}, "new")
	x, _ = checkLine(t, x, "begin 10 20 30")
	if !x.On || output != "ok" {
		t.Fatalf("the table is %v", x)
	}
	moves := 0
	for x.On && !impl.IsEnded(x.Game) {
		for _, line := range []string{"game", "can", "see 0", "see 1", "see 2", "record", "audit", "sheet"} {
			x, _ = checkLine(t, x, line)
		}
		line := fmt.Sprint("auto ", moves%4)
		if playable := impl.Playable(x.Game); len(playable) > 0 && moves%5 == 0 {
			line = "play " + deckTexts[playable[0]]
		}
		if x, output = checkLine(t, x, line); output != "ok" {
			t.Fatalf("%q gives %q", line, output)
		}
		moves++
	}
	if len(x.Record) != moves || moves < 5 {
		t.Errorf("after %d moves, the record is %v", moves, x.Record)
	}
	points := impl.Settled(x.Game)
	x, output = checkLine(t, x, "settle")
	if _, sheet := checkLine(t, x, "sheet"); output != "ok" || sheet != roundText(points) || x.On {
		t.Errorf("settled, the sheet is %q, not %v", sheet, points)
	}
	x, _ = checkLine(t, x, "begin 10 20 31")
	if _, output := checkLine(t, x, "table"); output != "3 0 1 on" {
		t.Errorf("the second game begins with %q", output)
	}
}

func TestConsoleQuestions(t *testing.T) {
	checkOutputs(t, `
	melds 2c3c4c2d2h=> 2c3c4c 2c2d2h
	melds 2c3c=> -
	melds 2c2c=> what
	left 2c3c4cKd=> 10
	left 2c3c4c5c6c7c8c9cTcJcQcKcAc=> -1
	kind TcJcQcKcAc=> straightflush:12
	kind 2c2d3c3d4c=> two:1,0,2
	kind 2c=> -
	count (r&J+)=> 8
	count !r=> 26
	count x=> what
	count ((r)=> what
	wins 3dKd9dAs 3=> 3
	wins 3dKd9dAs 4=> 1
	wins 3dKd9dAs 1000000000000=> 1
	wins 3dKd9dAs 1000000000001=> what
	wins 3dKd9dAs -1=> what
	wins 3dKd9dAs=> what
	wins 3 3dKd9dAs=> what
	wins 3dKd 3d=> what
	wins 3d3d 1=> what`)
}

// Each word is read as what its line asks for, whatever else it could be.
func TestHandsThatLookLikeWords(t *testing.T) {
	checkOutputs(t, `
	melds -=> -
	left -=> 0
	kind -=> -
	wins - 1=> -1
	count -=> what
	count 7=> 4
	count 2=> 4
	count A=> 4
	count 10=> what
	count 2c=> what
	count c=> 13
	count r=> 26
	count 2+=> 52
	left 7=> what
	left 2=> what
	left As=> 1
	left AsKd=> 11
	melds As=> -
	kind As=> -
	play -=> what
	play 7=> what
	play AsKd=> what
	play As=> no
	see As=> what
	see -=> what
	auto As=> what
	auto -=> what
	left take=> what
	melds new=> what
	kind kind=> what
	count count=> what
	take take=> what
	new new=> what
	As=> what
	-=> what
	7=> what
	r=> what`)
}

func TestNumbersOfTheConsole(t *testing.T) {
	x := newTable(t, easyRules())
	for word, ok := range map[string]bool{"0": true, "1": true, "999999": true, "1000000": true, "00": false, "01": false, "-0": false, "-1": false, "+1": false, "1.": false, "1000000000001": false, "99999999999999999999999": false, "0x1": false, "": false, "１": false} {
		for i := range 3 {
			words := []string{"1", "2", "3"}
			words[i] = word
			if next, output := checkLine(t, x, "begin "+strings.Join(words, " ")); (output == "ok") != ok || next.On != ok {
				t.Errorf("begin with %q gives %q", words, output)
			}
		}
	}
	for _, word := range []string{"1000001", "1000000000000"} {
		if next, output := checkLine(t, x, "begin 1 2 "+word); output != "no" || !sameTables(next, x) {
			t.Errorf("begin with the seed %s gives %q, %v", word, output, next)
		}
	}
	x, _ = checkLine(t, x, "begin 1 2 3")
	for _, word := range []string{"0", "3", "4", "1000000000000"} {
		if next, output := checkLine(t, x, "auto "+word); output != "ok" || len(next.Record) != 1 {
			t.Errorf("auto %s gives %q", word, output)
		}
	}
	for _, word := range []string{"3", "4", "1000000000000"} {
		if _, output := checkLine(t, x, "see "+word); output != "no" {
			t.Errorf("see %s gives %q", word, output)
		}
	}
}

// A deal that does not succeed leaves no seal of it.
func TestBeginOnOtherTables(t *testing.T) {
	two := newTable(t, smallRules(2))
	six := newTable(t, smallRules(6))
	sealed := newTable(t, easyRules())
	sealed.Seals = []int{1}
	all := newTable(t, easyRules())
	all.Seals = []int{1, 2, 3}
	other := newTable(t, smallRules(3))
	for i, c := range []struct {
		x    impl.Table
		want string
	}{
		{two, "no"}, {six, "no"}, {sealed, "no"}, {all, "no"}, {easyTable(), "no"}, {impl.Table{}, "no"}, {other, "ok"},
	} {
		next, output := checkLine(t, c.x, "begin 1 2 3")
		if output != c.want || output == "no" && !sameTables(next, c.x) {
			t.Errorf("%d: begin of %v gives %q, %v", i, c.x, output, next)
		}
	}
}

func TestBlanksOfTheConsole(t *testing.T) {
	x := easyTable()
	for _, line := range []string{"table", " table", "table ", "   table   "} {
		if _, output := checkLine(t, x, line); output != "3 1 1 on" {
			t.Errorf("%q gives %q", line, output)
		}
	}
	for _, line := range []string{"wins 3dKd 1", "wins  3dKd   1 ", " wins 3dKd 1"} {
		if _, output := checkLine(t, x, line); output != "1" {
			t.Errorf("%q gives %q", line, output)
		}
	}
	for _, line := range []string{"", " ", "     ", "\ttable", "table\t", "table\n", "\ntable", "table\r", "\u00a0table", "Table", "TABLE", "tab le", "wins\t3dKd 1", "see 0\t", "table\x00", "take 1", "game 1", "auto", "see", "see 0 1", "play", "play Ac Ad", "begin", "begin 1 2 3 4", "melds", "melds 2c 3c", "wins", "left", "kind", "count", "count 7 7", "rules -", "record 1", "sheet 0", "audit ok", "can 1", "settle 1", "quit", "what", "ok", "no"} {
		if next, output := checkLine(t, x, line); output != "what" || !sameTables(next, x) {
			t.Errorf("%q gives %q", line, output)
		}
	}
}

func TestLinesThatAreTooLong(t *testing.T) {
	if impl.MaxLines != 60 || impl.MaxLineLen != 200 {
		t.Errorf("other limits")
	}
	x := easyTable()
	for _, size := range []int{199, 200, 201, 202, 5000} {
		want := "3 1 1 on"
		if size > 200 {
			want = "what"
		}
		for _, line := range []string{"table" + strings.Repeat(" ", size-5), strings.Repeat(" ", size-5) + "table"} {
			if next, output := checkLine(t, x, line); output != want || !sameTables(next, x) {
				t.Errorf("a line of %d bytes gives %q", size, output)
			}
		}
		if next, output := checkLine(t, x, "take"+strings.Repeat(" ", size-4)); (output == "ok") != (size <= 200) || len(next.Record) == 2 != (size <= 200) {
			t.Errorf("taking with %d bytes gives %q", size, output)
		}
	}
	whole := "left " + strings.Join(deckTexts, "")
	if _, output := checkLine(t, x, whole); output != "-1" {
		t.Errorf("of the whole deck, %q is left", output)
	}
}

func TestRunConsole(t *testing.T) {
	for _, c := range []struct {
		text string
		want []string
	}{
		{"", nil}, {"\n", []string{"what"}}, {"\n\n", []string{"what", "what"}}, {"table", []string{"0 0 0 off"}}, {"table\n", []string{"0 0 0 off"}}, {"table\n\n", []string{"0 0 0 off", "what"}}, {"\ntable", []string{"what", "0 0 0 off"}}, {"new\ntable\r\n", []string{"ok", "what"}}, {" ", []string{"what"}},
		{"new\nbegin 1 2 3\ntable", []string{"ok", "ok", "3 0 0 on"}}, {"new table", []string{"what"}}, {strings.Repeat("x", 201) + "\nnew", []string{"what", "ok"}},
	} {
		if got, ok := impl.RunConsole(c.text); !ok || !slices.Equal(got, c.want) {
			t.Errorf("RunConsole(%q) is %q, %t, not %q", c.text, got, ok, c.want)
		}
	}
	for _, line := range []string{"table", "", "x"} {
		for _, count := range []int{1, 59, 60, 61, 62, 1000} {
			for end, more := range map[string]int{"": 0, "\n": 0, "\n\n": 1} {
				text := strings.Repeat(line+"\n", count-1) + line + end
				want := count + more
				if text == "" {
					want = 0
				} else if line == "" && end == "" {
					// The last line is empty, so that the newline before it is one at the end.
					want--
				}
				got, ok := impl.RunConsole(text)
				if ok != (want <= 60) || ok && len(got) != want || !ok && got != nil {
					t.Errorf("RunConsole of %d lines of %q and %q is %q, %t", count, line, end, got, ok)
				}
			}
		}
	}
}

// consoleWords are words of which lines can be made, and others.
var consoleWords = strings.Fields("new begin play take settle auto rules table game see can record sheet audit melds left kind count wins 0 1 2 3 4 7 10 1000000 -1 As 2c 3d - AsAh 2c3c4c 2c2d2h2s 8h8h r !r 5+ (r&8) (r|c) x what ok no NEW")

// someLine is a line that is often one that the console knows.
func (n *numbers) someLine(x impl.Table) string {
	if n.below(3) == 0 {
		words := []string{}
		for range n.below(5) {
			words = append(words, consoleWords[n.below(len(consoleWords))])
		}
		return strings.Join(words, " ")
	}
	lines := []string{"auto 0", "auto 1", "auto 2", "auto 3", "take", "settle", fmt.Sprint("begin ", n.below(99), " ", n.below(99), " ", n.below(99)), "new", "see 1", "can", "game", "audit"}
	if playable := impl.Playable(x.Game); len(playable) > 0 {
		lines = append(lines, "play "+deckTexts[playable[0]])
	}
	line := lines[min(n.below(len(lines)), n.below(len(lines)))]
	if line == "new" && n.below(4) > 0 {
		return "table"
	}
	return line
}

// Promise 40: the console answers every line, and leaves a valid table.
func TestTheConsoleAnswersEveryLine(t *testing.T) {
	random := numbers{607}
	answers := map[string]int{}
	settled := 0
	for range 12 {
		x := newTable(t, easyRules())
		x.Rules.Limit = 1 + random.below(30)
		for range 150 {
			line := random.someLine(x)
			next, output := checkLine(t, x, line)
			if output == "" || !impl.IsTable(next) {
				t.Fatalf("%q of %v gives %q and %v", line, x, output, next)
			}
			if (output == "what" || output == "no") && !sameTables(next, x) {
				t.Fatalf("%q gives %q, but changes %v to %v", line, output, x, next)
			}
			answers[output]++
			settled += max(0, len(next.Sheet)-len(x.Sheet))
			x = next
		}
	}
	if answers["ok"] < 100 || answers["no"] < 100 || answers["what"] < 100 || len(answers) < 40 || settled < 3 {
		t.Errorf("the answers are %v, and %d games were settled", answers, settled)
	}
}

// Any bytes are answered.
func TestTheConsoleAnswersAnyBytes(t *testing.T) {
	random := numbers{613}
	for range 2000 {
		line := []byte{}
		for range random.below(12) {
			line = append(line, "take \n\x00\xff29csr&|!()+-"[random.below(20)])
		}
		checkLine(t, easyTable(), string(line))
	}
	for b := range 256 {
		checkLine(t, easyTable(), string([]byte{byte(b)}))
		checkLine(t, easyTable(), "table"+string([]byte{byte(b)}))
		checkLine(t, easyTable(), "count "+string([]byte{byte(b)}))
	}
}

// A table that is not valid can be looked at, but only be replaced by a new one.
func TestConsoleOfNoTable(t *testing.T) {
	lines := []string{"take", "settle", "play 8c", "auto 0", "auto 3", "begin 1 2 3", "rules", "table", "game", "see 0", "can", "record", "sheet", "audit", "new"}
	for _, x := range append(changedTables(easyTable()), changedTables(newTable(t, easyRules()))...) {
		for i, line := range lines {
			next, output := checkLine(t, x, line)
			if i < 6 && output != "no" || output == "" || line != "new" && !sameTables(next, x) || line == "new" && !impl.IsTable(next) {
				t.Errorf("%q of %v gives %q", line, x, output)
			}
		}
	}
}

// A sheet with a round of nothing has no text.
func TestSheetOfNothing(t *testing.T) {
	if _, output := impl.ConsoleLine(impl.Table{Sheet: [][]int{{}}}, "sheet"); output != "-" {
		t.Errorf("the sheet is %q", output)
	}
}

func TestConsoleKeepsArguments(t *testing.T) {
	ended := tableAtEnd(easyTable(), nil)
	for _, x := range []impl.Table{{}, easyTable(), ended, newTable(t, easyRules()), changedTables(easyTable())[40]} {
		for _, line := range []string{"new", "begin 1 2 3", "take", "play 9c", "auto 1", "settle", "table", "audit", "x", "", "see x", "wins - 1", "see 1"} {
			keepsTable(t, "ConsoleLine", x, func(x impl.Table) impl.Table {
				next, _ := impl.ConsoleLine(x, line)
				return next
			})
		}
	}
}
