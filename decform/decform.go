// Package decform knows the one form of each decimal number. It stands apart from the layers because the nearest float, decimal arithmetic and rounding all refuse what is not in that form.
package decform

import (
	"strings"

	"quipu/api"
)

// May tells whether a Dec is in the one form that its number has.
func May(d api.Dec) bool {
	switch d.Class {
	case api.Finite:
		return bare(d) || mayDigits(d.Digits, d.Exp)
	case api.Inf:
		return bare(d)
	case api.NaN:
		return bare(d) && !d.Neg
	}
	return false
}

// Finite answers the Dec of digits, noughts ahead and behind too, times 10^exp; ErrDecRange, if too many digits are left, or if it is too far out.
func Finite(neg bool, digits string, exp int) (api.Dec, api.Errno) {
	d := trimmed(neg, digits, exp)
	if !May(d) {
		return api.Dec{}, api.ErrDecRange
	}
	return d, api.OK
}

func trimmed(neg bool, digits string, exp int) api.Dec {
	short := strings.TrimRight(digits, "0")
	exp += len(digits) - len(short)
	short = strings.TrimLeft(short, "0")
	if short == "" {
		return api.Dec{Class: api.Finite, Neg: neg}
	}
	return api.Dec{Class: api.Finite, Neg: neg, Digits: short, Exp: exp}
}

func bare(d api.Dec) bool { return d.Digits == "" && d.Exp == 0 }

// mayDigits goes by the length first: of too many digits none is looked at. No sum here is beyond an int, whatever exp is.
func mayDigits(digits string, exp int) bool {
	size := len(digits)
	if size == 0 || size > api.MaxDigits || exp < -api.MaxExp-size || exp > api.MaxExp-size {
		return false
	}
	return digits[0] != '0' && digits[size-1] != '0' && areDigits(digits)
}

func areDigits(s string) bool {
	for i := range len(s) {
		if s[i] < '0' || s[i] > '9' {
			return false
		}
	}
	return true
}
