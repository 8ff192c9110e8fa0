package nearest

import (
	"quipu/api"
	"quipu/nat"
	"quipu/whole"
)

// fraction is an amount above 0, as one natural number by another, and the width whose nearest float is looked for.
type fraction struct {
	width
	over, under []uint64
}

// fractionOf takes a Dec that may be, and has digits. Its bounds are narrower than those of Parse and Pow10, so neither can fail.
func (w width) fractionOf(d api.Dec) fraction {
	number, _ := whole.Parse(d.Digits)
	if d.Exp < 0 {
		power, _ := whole.Pow10(-d.Exp)
		return fraction{width: w, over: number, under: power}
	}
	power, _ := whole.Pow10(d.Exp)
	return fraction{width: w, over: nat.Mul(number, power), under: nat.Of(1)}
}

// nearest answers the bits of the nearest float: the amount is counted in steps from one float to the next, and the steps are rounded. Two floats next to each other differ in the lowest bit of their steps, so a tie goes to even steps.
func (f fraction) nearest() uint64 {
	power := max(f.highest()-f.fieldBits, f.least)
	steps := f.divided(power)
	quotient, rest, _ := nat.DivMod(steps.over, steps.under)
	number, _ := nat.Uint(quotient)
	order := nat.Cmp(nat.Add(rest, rest), steps.under)
	if order > 0 || order == 0 && number%2 == 1 {
		number++
	}
	return f.join(number, power)
}

// highest answers the power of 2 that the amount's highest bit counts.
func (f fraction) highest() int {
	power := nat.Bits(f.over) - nat.Bits(f.under)
	// The bits of both numbers leave one doubt: whether the quotient is just below that power.
	if scaled := f.divided(power); nat.Cmp(scaled.over, scaled.under) < 0 {
		return power - 1
	}
	return power
}

// divided answers the fraction by 2^n. What a Dec may be keeps n far within the bounds of the shift.
func (f fraction) divided(n int) fraction {
	if n < 0 {
		f.over, _ = nat.Shl(f.over, -n)
	} else {
		f.under, _ = nat.Shl(f.under, n)
	}
	return f
}
