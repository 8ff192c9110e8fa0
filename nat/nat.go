// Package nat is layer 1: natural numbers of any size. See shared/doc/01-nat.md.
package nat

import (
	"math/bits"

	"quipu/api"
)

const limbBits = 64

// Norm: without noughts on top.
func Norm(a []uint64) []uint64 {
	a = trim(a)
	own := make([]uint64, len(a))
	copy(own, a)
	return own
}

// Of: the number n.
func Of(n uint64) []uint64 {
	return trim([]uint64{n})
}

// Uint: as a uint64, if it is one.
func Uint(a []uint64) (uint64, bool) {
	if len(trim(a)) > 1 {
		return 0, false
	}
	return limb(a, 0), true
}

// Cmp: how two stand.
func Cmp(a, b []uint64) int {
	order := 0
	// A higher limb outweighs all lower ones, so the last pair that differs tells.
	eachPair(a, b, func(_ int, x, y uint64) {
		if x < y {
			order = -1
		} else if x > y {
			order = 1
		}
	})
	return order
}

// Bits: how many it has.
func Bits(a []uint64) int {
	a = trim(a)
	if len(a) == 0 {
		return 0
	}
	top := len(a) - 1
	return top*limbBits + bits.Len64(a[top])
}

// Add: the sum.
func Add(a, b []uint64) []uint64 {
	a, b = trim(a), trim(b)
	sum := make([]uint64, max(len(a), len(b))+1)
	var carry uint64
	eachPair(a, b, func(i int, x, y uint64) {
		sum[i], carry = bits.Add64(x, y, carry)
	})
	sum[len(sum)-1] = carry
	return trim(sum)
}

// Sub: the difference.
func Sub(a, b []uint64) ([]uint64, api.Errno) {
	a, b = trim(a), trim(b)
	rest := make([]uint64, max(len(a), len(b)))
	var borrow uint64
	eachPair(a, b, func(i int, x, y uint64) {
		rest[i], borrow = bits.Sub64(x, y, borrow)
	})
	if borrow != 0 {
		return nil, api.ErrNatBelow
	}
	return trim(rest), api.OK
}

// Mul: the product.
func Mul(a, b []uint64) []uint64 {
	a, b = trim(a), trim(b)
	product := make([]uint64, len(a)+len(b))
	for i, n := range a {
		addTimes(product[i:i+len(b)+1], b, n)
	}
	return trim(product)
}

// addTimes adds b times n to the row, which is one limb longer than b and must have room for the sum.
func addTimes(row, b []uint64, n uint64) {
	var carry uint64
	eachPair(row, b, func(i int, x, y uint64) {
		high, low := bits.Mul64(y, n)
		low, over := bits.Add64(low, carry, 0)
		high += over
		row[i], over = bits.Add64(x, low, 0)
		carry = high + over
	})
}

// eachPair hands over the limbs of both lists, pair by pair, from the lowest on; the shorter list goes on with noughts.
func eachPair(a, b []uint64, do func(i int, x, y uint64)) {
	for i := range max(len(a), len(b)) {
		do(i, limb(a, i), limb(b, i))
	}
}

func limb(a []uint64, i int) uint64 {
	if i < len(a) {
		return a[i]
	}
	return 0
}

// trim shares a's memory: a caller's list must be copied ahead of being answered.
func trim(a []uint64) []uint64 {
	n := len(a)
	for n > 0 && a[n-1] == 0 {
		n--
	}
	return a[:n]
}
