// Package num is layer 1: numbers as bytes, the highest first (doc/01-num.md).
package num

import (
	"remuda/api"
)

// Right tells whether size is one, and n a number that so many bytes hold, with a sign or without.
func Right(n, size int) bool {
	if !isSize(size) {
		return false
	}
	all := span(size)
	return -all/2 <= n && n < all
}

// Get reads the number of size bytes of b from at on.
func Get(b []byte, at, size int) (int, api.Errno) {
	if !isSize(size) || at < 0 {
		return 0, api.ErrArg
	}
	// at is held against what is left: at + size could wrap round.
	if at > len(b)-size {
		return 0, api.ErrShort
	}
	n := 0
	for i := range size {
		n = n<<8 | int(b[at+i])
	}
	return n, api.OK
}

// Signed reads n as a number with a sign, if it is one of size bytes with the highest bit set.
func Signed(n, size int) int {
	if !isSize(size) {
		return n
	}
	all := span(size)
	if all/2 <= n && n < all {
		return n - all
	}
	return n
}

// Put answers a copy of b with n's size bytes behind, or the copy alone, unless Right.
func Put(b []byte, n, size int) []byte {
	if !Right(n, size) {
		return append([]byte(nil), b...)
	}
	// A copy always: appending to b itself would write into its spare room.
	out := make([]byte, len(b), len(b)+size)
	copy(out, b)
	for i := range size {
		out = append(out, byte(n>>(8*(size-1-i))))
	}
	return out
}

func isSize(size int) bool {
	return size == 1 || size == 2 || size == 4
}

// span is how many numbers so many bytes hold; size is one.
func span(size int) int {
	return 1 << (8 * size)
}
