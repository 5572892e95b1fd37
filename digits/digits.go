// Package digits is layer 2: numbers in decimal digits, and texts without a byte 0 (doc/02-digits.md).
package digits

import (
	"strings"
)

// mostDigits is how many digits a number that is parsed may have.
const mostDigits = 10

// Text tells n in decimal digits, with - ahead, if it is below 0.
func Text(n int) string {
	// Without a sign, since the lowest number has no counterpart above 0.
	rest := uint(n)
	if n < 0 {
		rest = -rest
	}
	count := places(rest)
	b := make([]byte, count)
	for i := range count {
		b[count-1-i] = '0' + byte(rest%10)
		rest /= 10
	}
	if n < 0 {
		return "-" + string(b)
	}
	return string(b)
}

// Parse reads a number of one to ten digits, without noughts ahead, that is at most most.
func Parse(s string, most int) (int, bool) {
	if len(s) < 1 || len(s) > mostDigits || s[0] == '0' && len(s) > 1 {
		return 0, false
	}
	n := 0
	for i := range len(s) {
		if s[i] < '0' || s[i] > '9' {
			return 0, false
		}
		n = n*10 + int(s[i]-'0')
	}
	if n > most {
		return 0, false
	}
	return n, true
}

// Clean tells whether s has no byte 0.
func Clean(s string) bool {
	return strings.IndexByte(s, 0) < 0
}

// Quote puts s between two quotation marks; what is within stays as it is.
func Quote(s string) string {
	return `"` + s + `"`
}

// places is how many decimal digits n has.
func places(n uint) int {
	count := 1
	for n >= 10 {
		n /= 10
		count++
	}
	return count
}
