// Package num is layer 1: numbers with bounds.
package num

import (
	"strconv"
	"strings"

	"solstice/api"
)

const (
	maxDigits = 18 // of a number that is read: all such numbers are below MaxNum
	maxWidth  = 20 // of a number that is written
)

// Add is a and b, added.
func Add(a, b int) (int, bool) {
	if !within(a) || !within(b) {
		return 0, false
	}
	// The bounds are moved instead of adding first: the sum of two numbers of MaxNum wraps.
	if b > 0 && a > api.MaxNum-b || b < 0 && a < -api.MaxNum-b {
		return 0, false
	}
	return a + b, true
}

// Mul is a times b.
func Mul(a, b int) (int, bool) {
	if !within(a) || !within(b) {
		return 0, false
	}
	if a != 0 && size(b) > api.MaxNum/size(a) {
		return 0, false
	}
	return a * b, true
}

// Div is a by b, rounded down, and what is left.
func Div(a, b int) (quotient, rest int, ok bool) {
	if b < 1 || !within(a) || !within(b) {
		return 0, 0, false
	}
	quotient, rest = a/b, a%b
	if rest < 0 {
		quotient, rest = quotient-1, rest+b
	}
	return quotient, rest, true
}

// Parse reads decimal digits.
func Parse(s string) (int, bool) {
	if len(s) < 1 || len(s) > maxDigits {
		return 0, false
	}
	n := 0
	for i := 0; i < len(s); i++ {
		if s[i] < '0' || s[i] > '9' {
			return 0, false
		}
		n = 10*n + int(s[i]-'0')
	}
	return n, true
}

// Text writes n with at least so many digits.
func Text(n, digits int) string {
	if n < 0 {
		return ""
	}
	if digits < 0 || digits > maxWidth {
		digits = 0
	}
	s := strconv.Itoa(n)
	if len(s) < digits {
		s = strings.Repeat("0", digits-len(s)) + s
	}
	return s
}

// within tells whether n is a number that may be reckoned with.
func within(n int) bool { return n >= -api.MaxNum && n <= api.MaxNum }

// size is n without its sign (of n within the bounds).
func size(n int) int {
	if n < 0 {
		return -n
	}
	return n
}
