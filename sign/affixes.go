package sign

import (
	"slices"

	"quipu/affix"
	"quipu/api"
)

// Affixes are those of a pattern for a sign.
func Affixes(p api.Pattern, sign int) (before, after []api.Token, e api.Errno) {
	switch sign {
	case minus:
		before, after = ofMinus(p)
	case none:
		before, after = slices.Clone(p.Pos.Prefix), slices.Clone(p.Pos.Suffix)
	case plus:
		before, after = ofPlus(p)
	default:
		e = api.ErrSignForm
	}
	return before, after, e
}

func ofMinus(p api.Pattern) (before, after []api.Token) {
	if p.HasNeg {
		return slices.Clone(p.Neg.Prefix), slices.Clone(p.Neg.Suffix)
	}
	return behind(api.TokMinus, p.Pos)
}

// ofPlus: a plus stands where a minus would; a half that tells what is below zero without a minus has no such place.
func ofPlus(p api.Pattern) (before, after []api.Token) {
	if p.HasNeg && (affix.Has(p.Neg.Prefix, api.TokMinus) || affix.Has(p.Neg.Suffix, api.TokMinus)) {
		return affix.Turn(p.Neg.Prefix, api.TokMinus, api.TokPlus), affix.Turn(p.Neg.Suffix, api.TokMinus, api.TokPlus)
	}
	return behind(api.TokPlus, p.Pos)
}

// behind: a half's affixes behind a sign.
func behind(kind int, half api.Sub) (before, after []api.Token) {
	return slices.Concat([]api.Token{{Kind: kind}}, half.Prefix), slices.Clone(half.Suffix)
}
