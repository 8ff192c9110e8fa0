package operand

import (
	"strings"

	"quipu/api"
)

const (
	none = "0" // the number of no digits, or of noughts alone

	// Twice as many as are shown on one side, since an exponent moves digits, and noughts, from the other one.
	most = 2 * api.MaxShown
)

// moved answers the digits ahead of the point and behind it, when it is moved to the right; exp is not below 0.
func moved(ahead, behind string, exp int) (string, string) {
	over := min(exp, len(behind))
	return ahead + behind[:over] + noughts(exp-over), behind[over:]
}

func noughts(n int) string { return strings.Repeat("0", n) }

// count answers how many digits there are, with the noughts behind and without them.
func count(digits string) (all, short int) {
	for _, digit := range digits {
		all++
		if digit != '0' {
			short = all
		}
	}
	return all, short
}

// number answers digits without noughts ahead: a copy, because what is answered shares nothing with what is handed in.
func number(digits string) string {
	for i, digit := range digits {
		if digit != '0' {
			return strings.Clone(digits[i:])
		}
	}
	return none
}

// isNumber goes by the length first: of too many digits none is looked at.
func isNumber(digits string) bool {
	if digits == none {
		return true
	}
	return digits != "" && len(digits) <= most && digits[0] != '0' && areDigits(digits)
}

func areDigits(text string) bool {
	for _, digit := range text {
		if digit < '0' || digit > '9' {
			return false
		}
	}
	return true
}

func isCount(n int) bool { return n >= 0 && n <= most }
