package tests

import (
	"math"
	"strconv"
	"strings"
	"testing"

	"loop.example/g03010/impl"
)

func TestMaxValue(t *testing.T) {
	if impl.MaxValue != 1000000000000 {
		t.Errorf("MaxValue is %d", impl.MaxValue)
	}
}

func TestFormatInt(t *testing.T) {
	cases := []struct {
		n    int
		want string
	}{
		{0, "0"},
		{7, "7"},
		{-3, "-3"},
		{10, "10"},
		{-10, "-10"},
		{120, "120"},
		{1000000000000, "1000000000000"},
		{1000000000001, "1000000000001"},
		{-1000000000000, "-1000000000000"},
		{math.MaxInt, "9223372036854775807"},
		{math.MinInt, "-9223372036854775808"},
		{math.MinInt + 1, "-9223372036854775807"},
	}
	for _, c := range cases {
		if got := impl.FormatInt(c.n); got != c.want {
			t.Errorf("FormatInt(%d) is %q, not %q", c.n, got, c.want)
		}
	}
}

func TestParseIntAccepts(t *testing.T) {
	cases := []struct {
		s    string
		want int
	}{
		{"0", 0},
		{"1", 1},
		{"9", 9},
		{"10", 10},
		{"17", 17},
		{"100", 100},
		{"1002003", 1002003},
		{"123456789", 123456789},
		{"987654321098", 987654321098},
		{"999999999999", 999999999999},
		{"1000000000000", 1000000000000},
	}
	for _, c := range cases {
		if got, ok := impl.ParseInt(c.s); got != c.want || !ok {
			t.Errorf("ParseInt(%q) is %d, %t, not %d, true", c.s, got, ok, c.want)
		}
	}
}

func checkNoInt(t *testing.T, s string) {
	t.Helper()
	if got, ok := impl.ParseInt(s); got != 0 || ok {
		t.Errorf("ParseInt(%q) is %d, %t, not 0, false", s, got, ok)
	}
}

func TestParseIntRejectsForms(t *testing.T) {
	forms := []string{
		"",
		"00", "000", "01", "017", "0000000000000000000001", "01000000000000",
		"+", "-", "+0", "-0", "+1", "-1", "--1", "+-1", "-9223372036854775808", "1-", "1+",
		" ", " 1", "1 ", "1 2", "\t1", "1\n", "\x001", "1\x00",
		"x", "1x", "x1", "1x1", "12a34", "0x", "0x10", "0b1", "0o7", "x0",
		"1_000", "1,000", "1.0", ".5", "5.", "1e3", "1E3", "inf", "NaN",
		"\u0661", "1\u0662", "\uff11", "\xff", "1\xff2", "\u00b2",
	}
	for _, s := range forms {
		checkNoInt(t, s)
	}
}

func TestParseIntRejectsLarge(t *testing.T) {
	large := []string{
		"1000000000001",
		"1000000000010",
		"1999999999999",
		"2000000000000",
		"9999999999999",
		"10000000000000",
		"9223372036854775807",
		"9223372036854775808",
		"9223372036854775809",
		"18446744073709551615",
		"18446744073709551616", // the next three are 0, 1 and 17 modulo 2 to the 64th
		"18446744073709551617",
		"18446744073709551633",
		"36893488147419103249", // 17 modulo 2 to the 64th, too
		"340282366920938463463374607431768211456",
		"1" + strings.Repeat("0", 1000),
		strings.Repeat("9", 100000),
		"1" + strings.Repeat("0", 64) + "7",
		strings.Repeat("9", 30) + "x",
	}
	for _, s := range large {
		checkNoInt(t, s)
	}
}

// Every byte, alone and at each place of a number, is taken just where it is a digit.
func TestParseIntEveryByte(t *testing.T) {
	for b := 0; b < 256; b++ {
		isDigit := b >= '0' && b <= '9'
		s := string([]byte{byte(b)})
		if !isDigit {
			checkNoInt(t, s)
		} else if got, ok := impl.ParseInt(s); got != b-'0' || !ok {
			t.Errorf("ParseInt(%q) is %d, %t", s, got, ok)
		}
		for at := 0; at < 4 && !isDigit; at++ {
			text := []byte("1234")
			text[at] = byte(b)
			checkNoInt(t, string(text))
			checkNoInt(t, "1234"[:at]+s+"1234"[at:])
		}
	}
}

// Promise 1: what FormatInt writes is read again if it is from 0 to MaxValue, and nothing else is.
func TestParseIntInvertsFormatInt(t *testing.T) {
	check := func(n int) {
		s := strconv.Itoa(n)
		if impl.FormatInt(n) != s {
			t.Errorf("FormatInt(%d) is %q", n, impl.FormatInt(n))
		}
		if n < 0 || n > impl.MaxValue {
			checkNoInt(t, s)
		} else if got, ok := impl.ParseInt(s); got != n || !ok {
			t.Errorf("ParseInt(%q) is %d, %t", s, got, ok)
		}
		if n >= 0 {
			checkNoInt(t, "0"+s)
			checkNoInt(t, "+"+s)
			checkNoInt(t, "-"+s)
		}
	}
	for n := -200; n <= 2000; n++ {
		check(n)
		check(impl.MaxValue + n)
	}
	for n := 1; n <= math.MaxInt/10; n *= 10 {
		for _, near := range []int{n - 1, n, n + 1, 7 * n, -n} {
			check(near)
		}
	}
	check(math.MaxInt)
	check(math.MinInt)
}

// A result is accepted just if FormatInt gives the text back, whatever short text of these letters it is.
func TestParseIntOfShortTexts(t *testing.T) {
	letters := "019+-x "
	texts := []string{""}
	for length := 0; length < 4; length++ {
		var longer []string
		for _, s := range texts {
			n, ok := impl.ParseInt(s)
			want, err := strconv.Atoi(s)
			wanted := err == nil && want >= 0 && strconv.Itoa(want) == s
			if ok != wanted || ok && n != want || !ok && n != 0 {
				t.Errorf("ParseInt(%q) is %d, %t", s, n, ok)
			}
			for _, r := range letters {
				longer = append(longer, s+string(r))
			}
		}
		texts = longer
	}
}

func TestMinMax(t *testing.T) {
	cases := []struct{ a, b, least, greatest int }{
		{0, 0, 0, 0},
		{1, 2, 1, 2},
		{2, 1, 1, 2},
		{2, -1, -1, 2},
		{-1, 2, -1, 2},
		{5, 5, 5, 5},
		{-7, -7, -7, -7},
		{-2, -3, -3, -2},
		{0, 4, 0, 4},
		{0, -4, -4, 0},
		{math.MinInt, math.MaxInt, math.MinInt, math.MaxInt},
		{math.MaxInt, math.MinInt, math.MinInt, math.MaxInt},
		{math.MinInt, math.MinInt, math.MinInt, math.MinInt},
		{math.MaxInt, math.MaxInt, math.MaxInt, math.MaxInt},
		{math.MaxInt, -1, -1, math.MaxInt},
		{math.MinInt, 1, math.MinInt, 1},
	}
	for _, c := range cases {
		if got := impl.Min(c.a, c.b); got != c.least {
			t.Errorf("Min(%d, %d) is %d", c.a, c.b, got)
		}
		if got := impl.Max(c.a, c.b); got != c.greatest {
			t.Errorf("Max(%d, %d) is %d", c.a, c.b, got)
		}
	}
}

func TestCeilDiv(t *testing.T) {
	const most = 1000000000000
	cases := []struct{ a, b, want int }{
		{0, 1, 0},
		{0, 5, 0},
		{1, 1, 1},
		{1, 5, 1},
		{4, 5, 1},
		{5, 5, 1},
		{6, 5, 2},
		{7, 3, 3},
		{6, 3, 2},
		{9, 3, 3},
		{10, 3, 4},
		{0, most, 0},
		{1, most, 1},
		{most - 1, most, 1},
		{most, most, 1},
		{most, most - 1, 2},
		{most, 1, most},
		{most, 2, most / 2},
		{most - 1, 2, most / 2},
		{most, 3, 333333333334},
	}
	for _, c := range cases {
		if got := impl.CeilDiv(c.a, c.b); got != c.want {
			t.Errorf("CeilDiv(%d, %d) is %d, not %d", c.a, c.b, got, c.want)
		}
	}
}

func TestCeilDivIsLeastThatCovers(t *testing.T) {
	for a := 0; a <= 60; a++ {
		for b := 1; b <= 60; b++ {
			want := 0
			for want*b < a {
				want++
			}
			if got := impl.CeilDiv(a, b); got != want {
				t.Errorf("CeilDiv(%d, %d) is %d, not %d", a, b, got, want)
			}
		}
	}
}

func TestCeilDivInvalid(t *testing.T) {
	const most = 1000000000000
	cases := []struct{ a, b int }{
		{-1, 2},
		{-2, 1},
		{-100, 3},
		{math.MinInt, 1},
		{most + 1, 1},
		{most + 1, most},
		{math.MaxInt, 1},
		{math.MaxInt, most},
		{1, 0},
		{0, 0},
		{7, -3},
		{7, -1},
		{7, math.MinInt},
		{1, most + 1},
		{most, most + 1},
		{7, math.MaxInt},
		{-1, 0},
		{-7, -3},
		{math.MinInt, -1},
		{most + 1, most + 1},
	}
	for _, c := range cases {
		if got := impl.CeilDiv(c.a, c.b); got != 0 {
			t.Errorf("CeilDiv(%d, %d) is %d, not 0", c.a, c.b, got)
		}
	}
}

func TestMod(t *testing.T) {
	const most = 1000000000000
	cases := []struct{ p, q, want int }{
		{0, 1, 0},
		{5, 1, 0},
		{-5, 1, 0},
		{0, 7, 0},
		{6, 7, 6},
		{7, 7, 0},
		{8, 7, 1},
		{15, 7, 1},
		{-1, 7, 6},
		{-6, 7, 1},
		{-7, 7, 0},
		{-8, 7, 6},
		{-15, 7, 6},
		{most - 1, most, most - 1},
		{most, most, 0},
		{most + 1, most, 1},
		{-1, most, most - 1},
		{-most, most, 0},
		{-most - 1, most, most - 1},
		{math.MaxInt, 1, 0},
		{math.MinInt, 1, 0},
		{math.MaxInt, 10, 7},
		{math.MinInt, 10, 2},
		{math.MaxInt, most, 36854775807},
		{math.MinInt, most, 963145224192},
	}
	for _, c := range cases {
		if got := impl.Mod(c.p, c.q); got != c.want {
			t.Errorf("Mod(%d, %d) is %d, not %d", c.p, c.q, got, c.want)
		}
	}
}

func TestModGoesRound(t *testing.T) {
	for q := 1; q <= 30; q++ {
		want := 0
		for p := -30 * q; p <= 90; p++ {
			if got := impl.Mod(p, q); got != want {
				t.Errorf("Mod(%d, %d) is %d, not %d", p, q, got, want)
			}
			if want++; want == q {
				want = 0
			}
		}
	}
}

func TestModInvalid(t *testing.T) {
	const most = 1000000000000
	for _, q := range []int{0, -1, -2, -7, math.MinInt, most + 1, most + 2, math.MaxInt} {
		for _, p := range []int{0, 1, 3, -1, -3, 15, most, most + 3, math.MaxInt, math.MinInt} {
			if got := impl.Mod(p, q); got != 0 {
				t.Errorf("Mod(%d, %d) is %d, not 0", p, q, got)
			}
		}
	}
}

func TestInRange(t *testing.T) {
	cases := []struct {
		n, low, high int
		want         bool
	}{
		{2, 2, 3, true},
		{3, 2, 3, true},
		{1, 2, 3, false},
		{4, 2, 3, false},
		{5, 5, 5, true},
		{4, 5, 5, false},
		{6, 5, 5, false},
		{0, -1, 1, true},
		{-1, -1, 1, true},
		{-2, -1, 1, false},
		{-3, -5, -2, true},
		{2, 3, 1, false},
		{3, 3, 1, false},
		{1, 3, 1, false},
		{0, 3, 1, false},
		{4, 3, 1, false},
		{math.MinInt, math.MinInt, math.MaxInt, true},
		{math.MaxInt, math.MinInt, math.MaxInt, true},
		{0, math.MinInt, math.MaxInt, true},
		{0, math.MaxInt, math.MinInt, false},
		{math.MinInt, math.MaxInt, math.MinInt, false},
		{math.MinInt, 0, math.MaxInt, false},
		{math.MaxInt, math.MinInt, 0, false},
		{math.MaxInt, math.MaxInt, math.MaxInt, true},
		{math.MinInt, math.MinInt, math.MinInt, true},
	}
	for _, c := range cases {
		if got := impl.InRange(c.n, c.low, c.high); got != c.want {
			t.Errorf("InRange(%d, %d, %d) is %t", c.n, c.low, c.high, got)
		}
	}
}
