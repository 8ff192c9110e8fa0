package sign_test

import (
	"math"
	"math/rand/v2"
	"strings"

	"quipu/api"
)

var (
	minus    = api.Token{Kind: api.TokMinus}
	plus     = api.Token{Kind: api.TokPlus}
	percent  = api.Token{Kind: api.TokPercent}
	permille = api.Token{Kind: api.TokPermille}
)

func text(s string) api.Token { return api.Token{Text: s} }

func coin(many int) api.Token { return api.Token{Kind: api.TokCoin, Many: many} }

func tokens(l ...api.Token) []api.Token { return l }

func repeat(s string, n int) string { return strings.Repeat(s, n) }

func symbols() api.Symbols {
	return api.Symbols{
		Digits:  [10]string{"0", "1", "2", "3", "4", "5", "6", "7", "8", "9"},
		Decimal: "d", Group: "g", Minus: "\u2212", Plus: "pl", Percent: "%\u061c", Permille: "\u2030", Exponent: "E",
		Infinity: "\u221e", NaN: "NaN", Approximately: "~{0}", Range: "{0}-{1}",
	}
}

// half has the affixes, and is otherwise a usual one.
func half(prefix, suffix []api.Token) api.Sub {
	return api.Sub{Prefix: prefix, Suffix: suffix, IntMin: 1, FracMax: 3, Primary: 3}
}

func onePattern(prefix, suffix []api.Token) api.Pattern {
	return api.Pattern{Pos: half(prefix, suffix)}
}

func twoPattern(pos, neg api.Sub) api.Pattern {
	return api.Pattern{Pos: pos, HasNeg: true, Neg: neg}
}

func source() *rand.Rand { return rand.New(rand.NewPCG(19, 1)) }

func oneOf[T any](r *rand.Rand, list ...T) T { return list[r.IntN(len(list))] }

// edges: numbers about which displays, signs and kinds change, and those that are far out.
func edges() []int {
	return []int{math.MinInt, math.MinInt + 1, -1<<32 - 1, -1 << 32, -256, -255, -6, -5, -4, -3, -2, -1, 0, 1, 2, 3, 4, 5, 6, 7, 8, 255, 256, 257, 1 << 32, 1<<32 + 1, 1<<32 + 2, 1 << 62, math.MaxInt - 1, math.MaxInt}
}

// someShown: perhaps one that may be, with noughts for the most part.
func someShown(r *rand.Rand) api.Shown {
	digits := func() string {
		return repeat("0", r.IntN(4)) + oneOf(r, "", "", "", "1", "9", "5", "\x00", "\u0660", " ") + repeat("0", r.IntN(3))
	}
	x := api.Shown{Neg: r.IntN(2) == 0, Int: digits(), Frac: digits()}
	if r.IntN(3) == 0 {
		x.Class = oneOf(r, api.Inf, api.NaN, 3, -1, math.MaxInt)
	}
	if r.IntN(3) == 0 {
		x.Exp, x.Compact = oneOf(r, edges()...), r.IntN(2) == 0
	}
	return x
}

// someTokens are not always such as may be.
func someTokens(r *rand.Rand, most int) []api.Token {
	var l []api.Token
	for range r.IntN(most + 1) {
		x := oneOf(r, text("a"), text("-"), minus, minus, minus, plus, percent, permille, coin(1), coin(3))
		if r.IntN(8) == 0 {
			x = api.Token{Kind: oneOf(r, edges()...), Many: oneOf(r, edges()...), Text: oneOf(r, "", "x", "\xff")}
		}
		l = append(l, x)
	}
	return l
}

func somePattern(r *rand.Rand) api.Pattern {
	return api.Pattern{Pos: half(someTokens(r, 4), someTokens(r, 4)), HasNeg: r.IntN(3) > 0, Neg: half(someTokens(r, 4), someTokens(r, 4))}
}

func someSymbols(r *rand.Rand) (api.Symbols, string) {
	some := func() string { return oneOf(r, "", "", "-", "+", "%", "a", "\u2212", "\xff", repeat("x", 65)) }
	return api.Symbols{Minus: some(), Plus: some(), Percent: some(), Permille: some(), Decimal: some(), Exponent: some()}, some()
}
