// Package fixq is layer 1: integer arithmetic that never overflows silently; see shared/doc/01-fixq.md.
package fixq

import (
	"cmp"
	"math"
	"math/bits"
	"slices"

	"kilowatt/api"
)

// Add returns a + b, or ErrOver if it is not an int64.
func Add(a, b int64) (int64, api.Errno) {
	sum := a + b
	// Only a sum of two numbers of one sign can leave the range, and then it comes back with the other sign.
	if (a < 0) == (b < 0) && (sum < 0) != (a < 0) {
		return 0, api.ErrOver
	}
	return sum, api.OK
}

// Sub returns a - b, or ErrOver if it is not an int64.
func Sub(a, b int64) (int64, api.Errno) {
	difference := a - b
	// Only a difference of two numbers of different signs can leave the range, and then it comes back with the sign of b.
	if (a < 0) != (b < 0) && (difference < 0) != (a < 0) {
		return 0, api.ErrOver
	}
	return difference, api.OK
}

// Mul returns a times b, or ErrOver if it is not an int64.
func Mul(a, b int64) (int64, api.Errno) {
	high, low := bits.Mul64(magnitude(a), magnitude(b))
	negative := (a < 0) != (b < 0)
	most := uint64(math.MaxInt64)
	if negative {
		most++ // the range reaches one further below 0 than above it
	}
	if high != 0 || low > most {
		return 0, api.ErrOver
	}
	if negative {
		low = -low
	}
	return int64(low), api.OK
}

// magnitude is unsigned because that of the minimum int64 is not an int64.
func magnitude(a int64) uint64 {
	if a < 0 {
		return -uint64(a)
	}
	return uint64(a)
}

// Sum returns the sum of all numbers of l, or ErrOver if it is not an int64; intermediate sums may exceed the range.
func Sum(l []int64) (int64, api.Errno) {
	var high, low uint64
	add := func(n int64) {
		var carry uint64
		low, carry = bits.Add64(low, uint64(n), 0)
		high, _ = bits.Add64(high, signWord(n), carry)
	}
	for n := range slices.Values(l) {
		add(n)
	}
	// The sum is an int64 just if the high word says nothing more than the sign of the low one.
	if high != signWord(int64(low)) {
		return 0, api.ErrOver
	}
	return int64(low), api.OK
}

// signWord is the high word of n as a number of two words: all ones if n is negative.
func signWord(n int64) uint64 {
	return uint64(n >> 63)
}

// Floor returns the quotient of a by b, rounded down, and its remainder; ErrZero if b is 0, ErrOver if the quotient is not an int64.
func Floor(a, b int64) (q, rest int64, e api.Errno) {
	if b == 0 {
		return 0, 0, api.ErrZero
	}
	if a == math.MinInt64 && b == -1 {
		return 0, 0, api.ErrOver
	}
	q, rest = a/b, a%b
	// The language rounds towards 0, which is up where the signs differ.
	if rest != 0 && (rest < 0) != (b < 0) {
		q--
		rest += b
	}
	return q, rest, api.OK
}

// Wrap returns b - a modulo 2^32: by how much a counter of 32 bits went on from a to b.
func Wrap(a, b uint32) uint32 {
	return b - a
}

// Scale returns the quotient of n times num by den, and its remainder; ErrZero if den is 0, ErrOver if the quotient is not a uint64.
func Scale(n, num, den uint64) (q, rest uint64, e api.Errno) {
	return Carry(n, num, den, 0)
}

// Carry returns the quotient of n times num plus rest by den, and its remainder; ErrZero if den is 0, ErrArg unless rest is below den, ErrOver if the quotient is not a uint64.
func Carry(n, num, den, rest uint64) (q, next uint64, e api.Errno) {
	if den == 0 {
		return 0, 0, api.ErrZero
	}
	if rest >= den {
		return 0, 0, api.ErrArg
	}
	high, low := bits.Mul64(n, num)
	low, carry := bits.Add64(low, rest, 0)
	high += carry // the high word of a product is at most 2^64 - 2, so this stays a word
	if high >= den {
		return 0, 0, api.ErrOver
	}
	q, next = bits.Div64(high, low, den)
	return q, next, api.OK
}

// Cmp returns -1, 0 or 1 if a times b is less than, equal to, or greater than c times d.
func Cmp(a, b, c, d uint64) int {
	left, leftLow := bits.Mul64(a, b)
	right, rightLow := bits.Mul64(c, d)
	switch {
	case left == right:
		// Equal high words decide nothing: the low ones take their place.
		left, right = leftLow, rightLow
		fallthrough
	default:
		return cmp.Compare(left, right)
	}
}
