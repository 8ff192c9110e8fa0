package shortest

import (
	"strings"

	"quipu/api"
	"quipu/nat"
	"quipu/whole"
)

// width is what is unlike for the two widths: how many bits the fields m and x have, and the power of 2 that m counts where x is 0.
type width struct {
	fieldBits, exponentBits int
	least                   int
}

func binary64() width { return width{fieldBits: 52, exponentBits: 11, least: -1074} }

func binary32() width { return width{fieldBits: 23, exponentBits: 8, least: -149} }

// dec tells a float by its class and sign; if there are digits to tell, tell answers them, a whole number's, and its power of ten.
func (w width) dec(bits uint64, tell func(x, m uint64) (string, int)) api.Dec {
	neg, x, m := w.split(bits)
	ones := uint64(1)<<w.exponentBits - 1
	switch {
	case x == ones && m != 0:
		return api.Dec{Class: api.NaN}
	case x == ones:
		return api.Dec{Class: api.Inf, Neg: neg}
	case x == 0 && m == 0:
		return api.Dec{Class: api.Finite, Neg: neg}
	}
	digits, exp := tell(x, m)
	short := strings.TrimRight(digits, "0")
	return api.Dec{Class: api.Finite, Neg: neg, Digits: short, Exp: exp + len(digits) - len(short)}
}

// split answers whether the sign's bit is set, and the fields x and m.
func (w width) split(bits uint64) (bool, uint64, uint64) {
	m := bits & (1<<w.fieldBits - 1)
	bits >>= w.fieldBits
	x := bits & (1<<w.exponentBits - 1)
	bits >>= w.exponentBits
	return bits != 0, x, m
}

// amount answers a finite float's amount as a whole number and its power of 2.
func (w width) amount(x, m uint64) (uint64, int) {
	if x == 0 {
		return m, w.least
	}
	return 1<<w.fieldBits + m, w.least + int(x) - 1
}

// all tells all digits of the amount.
func (w width) all(x, m uint64) (string, int) {
	number, power := w.amount(x, m)
	step, exp := powerOfTwo(power)
	return whole.Text(nat.Mul(nat.Of(number), step)), exp
}

// powerOfTwo answers 2^n as a whole number and a power of ten to take it by: 2^-k is 5^k times 10^-k. The bounds of both calls are far beyond any float's n, so neither can fail.
func powerOfTwo(n int) ([]uint64, int) {
	if n < 0 {
		power, _ := whole.Pow5(-n)
		return power, n
	}
	power, _ := nat.Shl(nat.Of(1), n)
	return power, 0
}
