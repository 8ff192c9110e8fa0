package nat

import (
	"math/bits"

	"quipu/api"
)

// DivMod: the quotient and the rest.
func DivMod(a, b []uint64) ([]uint64, []uint64, api.Errno) {
	a, b = trim(a), trim(b)
	switch {
	case len(b) == 0:
		return nil, nil, api.ErrNatZero
	case len(a) < len(b):
		return nil, Norm(a), api.OK
	case len(b) == 1:
		quotient, rest := divLimb(a, b[0])
		return quotient, Of(rest), api.OK
	}
	quotient, rest := divLong(a, b)
	return quotient, rest, api.OK
}

func divLimb(a []uint64, n uint64) ([]uint64, uint64) {
	quotient := make([]uint64, len(a))
	var rest uint64
	for i := len(a) - 1; i >= 0; i-- {
		// The rest is below n, which is what Div64 asks for.
		quotient[i], rest = bits.Div64(rest, a[i], n)
	}
	return trim(quotient), rest
}

// divLong is division as by hand, limb by limb from the top. Both lists are trimmed, b has two limbs or more, a no fewer.
func divLong(a, b []uint64) ([]uint64, []uint64) {
	n := len(b)
	// The quotient stays the same, and with the divisor's highest bit set a guess is at most one too high.
	shift := bits.LeadingZeros64(b[n-1])
	divisor := trim(shiftUp(b, 0, shift))
	rest := shiftUp(a, 0, shift)
	quotient := make([]uint64, len(a)-n+1)
	for i := len(quotient) - 1; i >= 0; i-- {
		row := rest[i : i+n+1]
		guess := guessLimb(row, divisor)
		if subTimes(row, divisor, guess) {
			guess--
			addBack(row, divisor)
		}
		quotient[i] = guess
	}
	return trim(quotient), shiftDown(trim(rest), 0, shift)
}

// guessLimb divides the row by the divisor, going by their topmost limbs alone: never too low, and too high by one at most.
func guessLimb(row, divisor []uint64) uint64 {
	n := len(divisor)
	first, second := divisor[n-1], divisor[n-2]
	if row[n] >= first {
		return 1<<limbBits - 1
	}
	guess, rest := bits.Div64(row[n], row[n-1], first)
	for {
		high, low := bits.Mul64(guess, second)
		if high < rest || high == rest && low <= row[n-2] {
			return guess
		}
		guess--
		rest += first
		// A rest that wraps round has grown beyond any high limb, so the guess would pass.
		if rest < first {
			return guess
		}
	}
}

// subTimes takes b times n from the row, which is one limb longer than b, and tells whether that went below nought.
func subTimes(row, b []uint64, n uint64) bool {
	var carry, borrow uint64
	eachPair(row, b, func(i int, x, y uint64) {
		high, low := bits.Mul64(y, n)
		low, over := bits.Add64(low, carry, 0)
		carry = high + over
		row[i], borrow = bits.Sub64(x, low, borrow)
	})
	return borrow != 0
}

// addBack adds b to a row that went below nought; the last carry takes that back.
func addBack(row, b []uint64) {
	var carry uint64
	eachPair(row, b, func(i int, x, y uint64) {
		row[i], carry = bits.Add64(x, y, carry)
	})
}
