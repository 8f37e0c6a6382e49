package impl

import (
	"errors"
	"strconv"
)

// MaxValue is the largest integer that the encodings of this module carry.
const MaxValue = 1000000000000

// The reasons for which a function of this layer has no value.
var (
	errNotDecimal = errors.New("not the decimal form of an integer")
	errOutOfRange = errors.New("integer out of range")
)

// FormatInt returns the decimal representation of n.
func FormatInt(n int) string {
	return strconv.Itoa(n)
}

// ParseInt returns the integer from 0 to MaxValue whose FormatInt is s, and true; 0 and false if there is none.
func ParseInt(s string) (int, bool) {
	n, err := readDecimal(s)
	if isReason(err) {
		return 0, false
	}
	return n, true
}

func readDecimal(s string) (int, error) {
	if s == "" || len(s) > 1 && s[0] == '0' {
		return 0, errNotDecimal
	}
	n := 0
	for i := 0; i < len(s); i++ {
		digit := int(s[i]) - '0'
		if !InRange(digit, 0, 9) {
			return 0, errNotDecimal
		}
		n = n*10 + digit
		// Checked after every digit, so that a long text cannot wrap around.
		if err := checkRange(n, 0, MaxValue); isReason(err) {
			return 0, err
		}
	}
	return n, nil
}

func checkRange(n int, low int, high int) error {
	if InRange(n, low, high) {
		return nil
	}
	return errOutOfRange
}

func isReason(err error) bool {
	return errors.Is(err, errNotDecimal) || errors.Is(err, errOutOfRange)
}

// Min returns the smaller of a and b.
func Min(a int, b int) int {
	least, _ := extremes(a, b)
	return least
}

// Max returns the larger of a and b.
func Max(a int, b int) int {
	_, greatest := extremes(a, b)
	return greatest
}

// extremes takes the first value by itself, so that there always is one.
func extremes(first int, others ...int) (int, int) {
	least, greatest := first, first
	for _, n := range others {
		if n < least {
			least = n
		}
		if n > greatest {
			greatest = n
		}
	}
	return least, greatest
}

// CeilDiv returns a divided by b, rounded up; 0 if a is not in the range 0 to MaxValue or b not in the range 1 to MaxValue.
func CeilDiv(a int, b int) int {
	if isReason(checkRange(a, 0, MaxValue)) || isReason(checkRange(b, 1, MaxValue)) {
		return 0
	}
	return (a + b - 1) / b
}

// Mod returns the remainder of p modulo q in the range 0 to q-1; 0 if q is not in the range 1 to MaxValue.
func Mod(p int, q int) int {
	if isReason(checkRange(q, 1, MaxValue)) {
		return 0
	}
	rest := p % q
	// The % of Go has the sign of p.
	if rest < 0 {
		rest += q
	}
	return rest
}

// InRange reports whether low <= n and n <= high.
func InRange(n int, low int, high int) bool {
	return low <= n && n <= high
}
