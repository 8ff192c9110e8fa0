package nearest

import "quipu/api"

// may tells whether a Dec is in the one form that its number has.
func may(d api.Dec) bool {
	switch d.Class {
	case api.Finite:
		return bare(d) || mayDigits(d.Digits, d.Exp)
	case api.Inf:
		return bare(d)
	case api.NaN:
		return bare(d) && !d.Neg
	}
	return false
}

func bare(d api.Dec) bool { return d.Digits == "" && d.Exp == 0 }

// mayDigits goes by the length first: of too many digits none is looked at. No sum here is beyond an int, whatever exp is.
func mayDigits(digits string, exp int) bool {
	size := len(digits)
	if size == 0 || size > api.MaxDigits || exp < -api.MaxExp-size || exp > api.MaxExp-size {
		return false
	}
	return digits[0] != '0' && digits[size-1] != '0' && areDigits(digits)
}

func areDigits(s string) bool {
	for i := range len(s) {
		if s[i] < '0' || s[i] > '9' {
			return false
		}
	}
	return true
}
