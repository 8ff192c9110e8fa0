package rule

import "quipu/api"

const (
	noFraction = "0"

	// No range has this number, nor one above it: they have nine digits at most.
	beyond = 1000000000
)

func firstThatHolds(rules []rule, x api.Operands) int {
	for _, r := range rules {
		if r.holds(x) {
			return r.category
		}
	}
	return api.Other
}

func (r rule) holds(x api.Operands) bool {
	for _, all := range r.alls {
		if eachHolds(all, x) {
			return true
		}
	}
	return false
}

func eachHolds(all []relation, x api.Operands) bool {
	for _, r := range all {
		if !r.holds(x) {
			return false
		}
	}
	return true
}

func (r relation) holds(x api.Operands) bool {
	return r.found(x) != r.unequal
}

// found: has one of the ranges the value? None has a number with a fraction, and what is left of one has that fraction still.
func (r relation) found(x api.Operands) bool {
	if r.operand == 'n' && x.T != noFraction {
		return false
	}
	value := r.value(x)
	for _, b := range r.ranges {
		if b.first <= value && value <= b.last {
			return true
		}
	}
	return false
}

// value takes n by its whole digits.
func (e expr) value(x api.Operands) int {
	switch e.operand {
	case 'v':
		return e.left(x.V)
	case 'w':
		return e.left(x.W)
	case 'c', 'e':
		return e.left(x.E)
	case 'f':
		return e.valueOf(x.F)
	case 't':
		return e.valueOf(x.T)
	}
	return e.valueOf(x.I)
}

// valueOf takes what is left digit by digit, because there are far more of them than an int has room for.
func (e expr) valueOf(digits string) int {
	value := 0
	for _, digit := range digits {
		value = e.left(10*value + int(digit-'0'))
	}
	return value
}

// left: the rest by the divisor; without one the number itself, as far as ranges can tell it from others.
func (e expr) left(number int) int {
	if e.divisor == 0 {
		return min(number, beyond)
	}
	return number % e.divisor
}
