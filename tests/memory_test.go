package tests

import (
	"slices"
	"testing"
)

// spare is how much capacity the guarded arguments have behind their elements.
const spare = 9

// guarded returns a copy of l with spare capacity full of marks, and a check that the elements and the marks are still there.
func guarded[T comparable](t *testing.T, name string, l []T, mark T) ([]T, func()) {
	t.Helper()
	whole := slices.Clone(l)
	for range spare {
		whole = append(whole, mark)
	}
	before := slices.Clone(whole)
	check := func() {
		t.Helper()
		if !slices.Equal(whole, before) {
			t.Errorf("%s: the argument became %v", name, whole)
		}
	}
	return whole[:len(l)], check
}

// guardInts is guarded for numbers, with a mark that no test uses as a number.
func guardInts(t *testing.T, name string, l []int) ([]int, func()) {
	t.Helper()
	return guarded(t, name, l, -777)
}

// scribble writes over all that a result holds, its spare capacity included: what shares memory with it changes.
func scribble[T any](l []T, mark T) {
	whole := l[:cap(l)]
	for i := range whole {
		whole[i] = mark
	}
}

// keeps checks that a function leaves its argument as it was and shares no memory with it.
func keeps[T comparable](t *testing.T, name string, l []T, mark T, f func([]T) []T) {
	t.Helper()
	arg, check := guarded(t, name, l, mark)
	first := f(arg)
	check()
	want := slices.Clone(first)
	scribble(first, mark)
	check()
	second := f(arg)
	if !slices.Equal(second, want) {
		t.Errorf("%s: called again, %v, not %v", name, second, want)
	}
	scribble(arg, mark)
	if !slices.Equal(second, want) {
		t.Errorf("%s: the result changed with the argument", name)
	}
}

// keepsInts is keeps for numbers.
func keepsInts(t *testing.T, name string, l []int, f func([]int) []int) {
	t.Helper()
	keeps(t, name, l, -777, f)
}

// keepsBytes is keeps for bytes.
func keepsBytes(t *testing.T, name string, b []byte, f func([]byte) []byte) {
	t.Helper()
	keeps(t, name, b, 222, f)
}

// keepsRows is keepsInts for a list of lists as the argument, and for rows of a result.
func keepsRows(t *testing.T, name string, rows [][]int, f func([][]int) [][]int) {
	t.Helper()
	args := make([][]int, len(rows), len(rows)+spare)
	checks := []func(){}
	for i, l := range rows {
		arg, check := guardInts(t, name, l)
		args[i] = arg
		checks = append(checks, check)
	}
	wholeArgs := args[:cap(args)]
	check := func() {
		t.Helper()
		for _, c := range checks {
			c()
		}
		for i := len(rows); i < len(wholeArgs); i++ {
			if wholeArgs[i] != nil {
				t.Errorf("%s: written behind the argument: %v", name, wholeArgs[i])
			}
		}
	}
	first := f(args)
	check()
	want := cloneRows(first)
	for i, l := range first {
		scribble(l, -555)
		for k := i + 1; k < len(first); k++ {
			if !slices.Equal(first[k], want[k]) {
				t.Errorf("%s: the rows %d and %d share memory", name, i, k)
			}
		}
	}
	scribble(first, nil)
	check()
	second := f(args)
	if !equalRows(second, want) {
		t.Errorf("%s: called again, %v, not %v", name, second, want)
	}
	for _, l := range args {
		scribble(l, -333)
	}
	scribble(args, nil)
	if !equalRows(second, want) {
		t.Errorf("%s: the result changed with the argument", name)
	}
}

func cloneRows(rows [][]int) [][]int {
	copies := [][]int{}
	for _, l := range rows {
		copies = append(copies, slices.Clone(l))
	}
	return copies
}

func equalRows(a [][]int, b [][]int) bool {
	return slices.EqualFunc(a, b, func(x []int, y []int) bool { return slices.Equal(x, y) })
}

// numbers is a row of pseudorandom numbers that is the same in every run.
type numbers struct{ state uint64 }

func (n *numbers) below(limit int) int {
	n.state = n.state*6364136223846793005 + 1442695040888963407
	return int((n.state >> 33) % uint64(limit))
}

// someHand returns size different cards.
func (n *numbers) someHand(size int) []int {
	deck := make([]int, 52)
	for i := range deck {
		deck[i] = i
	}
	for i := range size {
		k := i + n.below(52-i)
		deck[i], deck[k] = deck[k], deck[i]
	}
	return deck[:size:size]
}
