package width

import (
	"strings"

	"quipu/api"
	"quipu/dec"
)

// digits answers those ahead of the point and behind it, of a finite number that is rounded, and that has at least so many fraction digits.
func (p precision) digits(r api.Dec, least int) (string, string) {
	ahead, behind := split(r)
	whole, fraction := p.whole(ahead), p.fraction(behind, least)
	if whole == "" && fraction == "" {
		return "0", ""
	}
	return whole, fraction
}

// split answers a number's digits, without noughts ahead of all and behind all of them.
func split(r api.Dec) (string, string) {
	place := dec.Place(r)
	switch {
	case place <= 0:
		return "", noughts(-place) + r.Digits
	case r.Exp >= 0:
		return r.Digits + noughts(r.Exp), ""
	}
	return r.Digits[:place], r.Digits[place:]
}

func (p precision) whole(ahead string) string {
	ahead = noughts(p.IntMin-len(ahead)) + ahead
	if p.IntMax > 0 && len(ahead) > p.IntMax {
		return ahead[len(ahead)-p.IntMax:]
	}
	return ahead
}

// fraction is handed digits that don't end with a nought: if there are none at all, all that it could show are noughts.
func (p precision) fraction(behind string, least int) string {
	if p.Hide && behind == "" {
		return ""
	}
	return behind + noughts(least-len(behind))
}

func noughts(n int) string {
	return strings.Repeat("0", max(0, n))
}

func mayShown(s api.Shown) bool {
	if !within(s.Exp, -api.MaxExp-1, api.MaxExp+1) {
		return false
	}
	switch s.Class {
	case api.Finite:
		return (s.Int != "" || s.Frac != "") && areShown(s.Int) && areShown(s.Frac)
	case api.Inf:
		return s.Int == "" && s.Frac == ""
	case api.NaN:
		return s.Int == "" && s.Frac == "" && !s.Neg
	}
	return false
}

// areShown goes by the length first: of too many digits none is looked at.
func areShown(digits string) bool {
	return len(digits) <= api.MaxShown && strings.Trim(digits, "0123456789") == ""
}
