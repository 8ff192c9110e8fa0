package dec

import (
	"strconv"
	"strings"

	"quipu/api"
	"quipu/decform"
)

const (
	noNumber = "nan"
	infinity = "inf"
	below    = "-"

	maxPower = 5 // digits of an exponent
)

// Parse: the number of a text.
func Parse(s string) (api.Dec, api.Errno) {
	switch s {
	case noNumber:
		return api.Dec{Class: api.NaN}, api.OK
	case infinity, below + infinity:
		return api.Dec{Class: api.Inf, Neg: s != infinity}, api.OK
	}
	n, ok := takeApart(s)
	if !ok {
		return api.Dec{}, api.ErrDecText
	}
	d, err := decform.Finite(n.neg, n.ahead+n.behind, n.power-len(n.behind))
	// The few digits that are left shall not keep a text of any length in memory.
	d.Digits = strings.Clone(d.Digits)
	return d, err
}

// numeral is what the parts of a text say: the digits ahead of the point and behind it, and the exponent.
type numeral struct {
	neg           bool
	ahead, behind string
	power         int
}

// The parts of a text, in their order.
const (
	signPart = iota
	aheadPart
	behindPart
	markPart
	powerPart
	endPart
)

// takeApart answers what the parts of a text of a number say; false, if it is none.
func takeApart(rest string) (numeral, bool) {
	var n numeral
parts:
	for part := range endPart {
		switch part {
		case signPart:
			rest, n.neg = strings.CutPrefix(rest, below)
		case aheadPart:
			n.ahead, rest = cutDigits(rest)
		case behindPart:
			if after, ok := strings.CutPrefix(rest, "."); ok {
				n.behind, rest = cutDigits(after)
			}
			if n.ahead == "" && n.behind == "" {
				break parts
			}
		case markPart:
			if rest == "" {
				return n, true
			}
			if rest[0] != 'e' && rest[0] != 'E' {
				break parts
			}
			rest = rest[1:]
		case powerPart:
			digits, after := cutDigits(unsigned(rest))
			if digits == "" || len(digits) > maxPower || after != "" {
				break parts
			}
			n.power, _ = strconv.Atoi(rest)
			return n, true
		}
	}
	return numeral{}, false
}

// cutDigits answers the digits that s begins with, and what comes behind them.
func cutDigits(s string) (string, string) {
	end := 0
	for end < len(s) && '0' <= s[end] && s[end] <= '9' {
		end++
	}
	return s[:end], s[end:]
}

func unsigned(s string) string {
	if strings.HasPrefix(s, "-") || strings.HasPrefix(s, "+") {
		return s[1:]
	}
	return s
}

// Print: its text.
func Print(d api.Dec) (string, api.Errno) {
	if !May(d) {
		return "", api.ErrDecForm
	}
	text := amountText(d)
	if d.Neg {
		text = below + text
	}
	return text, api.OK
}

func amountText(d api.Dec) string {
	switch {
	case d.Class == api.NaN:
		return noNumber
	case d.Class == api.Inf:
		return infinity
	case d.Digits == "":
		return "0"
	}
	return d.Digits + "e" + strconv.Itoa(d.Exp)
}
