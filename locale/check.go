package locale

import (
	"slices"

	"quipu/affix"
	"quipu/api"
	"quipu/cursor"
	"quipu/pattern"
	"quipu/rule"
)

const (
	mostGroup = 4 // MinGroup
	leastExp  = 3
	mostExp   = 14
	mostFrac  = 9 // digits of a coin
	mostStep  = 999
)

// Check tells whether a locale may be.
func Check(l api.Locale) api.Errno {
	if mayName(l.Name) && maySymbols(l.Symbols) && within(l.MinGroup, 1, mostGroup) &&
		mayPatterns(l) && mayRules(l) && mayRows(l.Short) && mayRows(l.Long) &&
		mayCoins(l.Coins) && mayUnits(l.Units) && isText(l.Spacing, api.MaxText) {
		return api.OK
	}
	return api.ErrLocaleForm
}

func mayName(s string) bool { return s != "" && isText(s, api.MaxString) }

func maySymbols(s api.Symbols) bool {
	return mayDigits(s.Digits) &&
		all(isSymbol, s.Decimal, s.Group, s.Minus, s.Plus, s.Percent, s.Permille, s.Exponent, s.Infinity, s.NaN) &&
		isForm(s.Approximately) && isRange(s.Range)
}

func mayDigits(digits [10]string) bool {
	for i, d := range digits {
		if cursor.Runes(d) != 1 || slices.Contains(digits[:i], d) {
			return false
		}
	}
	return true
}

func mayPatterns(l api.Locale) bool {
	_, ok := plainPattern(l.DecimalPattern)
	return ok && patternHas(l.PercentPattern, api.TokPercent) &&
		patternHas(l.MoneyPattern, api.TokCoin) && patternHas(l.AccountingPattern, api.TokCoin)
}

func plainPattern(text string) (api.Pattern, bool) {
	p, err := pattern.Parse(text)
	return p, err == api.OK && p.Pos.Pad == "" && p.Neg.Pad == ""
}

// patternHas: is it a plain pattern, whose first half has a token of that kind?
func patternHas(text string, kind int) bool {
	p, ok := plainPattern(text)
	return ok && (affix.Has(p.Pos.Prefix, kind) || affix.Has(p.Pos.Suffix, kind))
}

func mayRules(l api.Locale) bool {
	return rule.Check(l.Cardinal) == api.OK && rule.Check(l.Ordinal) == api.OK && rule.CheckRanges(l.Ranges) == api.OK
}

func mayRows(rows []api.Compact) bool {
	if len(rows) > api.MaxRows || !rising(rows, byPlace) || !all(mayRow, rows...) {
		return false
	}
	for i, row := range rows {
		if !mayFollow(row, rows[i+1:]) {
			return false
		}
	}
	return true
}

func mayRow(row api.Compact) bool {
	p, ok := plainPattern(row.Pattern)
	h := p.Pos
	return ok && !p.HasNeg && textsAlone(h.Prefix) && textsAlone(h.Suffix) &&
		h.FracMax == 0 && h.Primary == 0 && h.ExpMin == 0 &&
		within(row.Exp, leastExp, mostExp) && within(row.Category, api.Zero, api.Other) && within(h.IntMin, 1, row.Exp+1)
}

func textsAlone(l []api.Token) bool {
	return all(func(t api.Token) bool { return t.Kind == api.TokText }, l...)
}

// mayFollow: the rows behind one rise, so the last one of an Exp is that of Other, if there is one: each other row has one of the same Exp behind it.
func mayFollow(row api.Compact, behind []api.Compact) bool {
	if len(behind) > 0 && behind[0].Exp == row.Exp {
		return intMin(behind[0]) == intMin(row)
	}
	return row.Category == api.Other
}

func intMin(row api.Compact) int {
	p, _ := plainPattern(row.Pattern)
	return p.Pos.IntMin
}

func mayCoins(coins []api.Coin) bool {
	return len(coins) <= api.MaxCoins && rising(coins, byCode) && all(mayCoin, coins...)
}

func mayCoin(c api.Coin) bool {
	return isCode(c.Code) && isSymbol(c.Symbol) && isSymbol(c.Narrow) && mayForms(c.Names) &&
		within(c.Digits, 0, mostFrac) && within(c.Cash, 0, mostFrac) && within(c.CashStep, 0, mostStep)
}

func mayUnits(units []api.Unit) bool {
	return len(units) <= api.MaxUnits && rising(units, byId) && all(mayUnit, units...)
}

func mayUnit(u api.Unit) bool {
	return isId(u.Id) && mayForms(u.Short) && mayForms(u.Long) && isFormOrEmpty(u.Per)
}

func mayForms(forms [api.Categories]string) bool {
	return isForm(forms[api.Other]) && all(isFormOrEmpty, forms[:]...)
}
