package notation_test

import (
	"math"
	"math/rand/v2"
	"strconv"
	"strings"

	"quipu/api"
)

func source() *rand.Rand { return rand.New(rand.NewPCG(18, 1)) }

func oneOf[T any](r *rand.Rand, list ...T) T { return list[r.IntN(len(list))] }

// someDec answers a number with digits, at most so many of them, whose exponent is at most that far from 0. Noughts, fives and nines are many, for the sake of middles and carries.
func someDec(r *rand.Rand, size, far int) api.Dec {
	const likely = "0123456789055999999"
	digits := strconv.Itoa(1 + r.IntN(9))
	if r.IntN(3) == 0 {
		digits = repeat("9", 1+r.IntN(size))
	}
	for range r.IntN(size) {
		digits += string(likely[r.IntN(len(likely))])
	}
	return api.Dec{Neg: r.IntN(2) == 0, Digits: strings.TrimRight(digits, "0"), Exp: r.IntN(2*far+1) - far}
}

// somePrecision answers one that width takes, of any kind, with no more than so many digits each way.
func somePrecision(r *rand.Rand, most int) api.Precision {
	highFrac, highSig := r.IntN(most+1), 1+r.IntN(most)
	lowFrac, lowSig := r.IntN(highFrac+1), 1+r.IntN(highSig)
	p := [api.Precs]api.Precision{
		api.PrecAll:  everything(),
		api.PrecFrac: frac(lowFrac, highFrac),
		api.PrecSig:  sig(lowSig, highSig),
		api.PrecBoth: both(lowFrac, highFrac, lowSig, highSig),
		api.PrecStep: step(oneOf(r, "1", "0.05", "50", "0.3", "7e-3", "1e3", "0.0025", "30000", "4e9"), lowFrac),
	}[r.IntN(api.Precs)]
	p.Strict = p.Kind == api.PrecBoth && r.IntN(2) == 0
	p.Mode, p.Hide, p.IntMin = r.IntN(api.Modes), r.IntN(3) == 0, r.IntN(2)
	return p
}

// withInts: as it may be for Short alone.
func withInts(r *rand.Rand, p api.Precision) api.Precision {
	p.IntMin = r.IntN(5)
	if r.IntN(2) == 0 {
		p.IntMax = max(1, p.IntMin) + r.IntN(4)
	}
	return p
}

// precisions: those of every kind that Science takes.
func precisions() []api.Precision {
	return []api.Precision{
		everything(), ints(0, 0, everything()), hidden(everything()), frac(0, 0), frac(2, 2), frac(0, 1), ints(0, 0, frac(0, 3)), hidden(frac(1, 4)), frac(0, 99),
		sig(1, 1), sig(3, 3), sig(1, 2), ints(0, 0, sig(2, 5)), hidden(sig(4, 4)), sig(1, 99),
		both(0, 0, 1, 1), both(0, 1, 1, 3), strict(both(0, 1, 1, 3)), ints(0, 0, both(2, 4, 2, 3)), strict(both(3, 3, 1, 1)), hidden(both(1, 2, 3, 4)),
		step("1", 0), step("0.05", 2), step("50", 1), ints(0, 0, step("3", 0)), hidden(step("0.5", 1)), step("2000", 0), step("7e-5", 0),
	}
}

// edges: numbers about which counts and places change, and those that are far out.
func edges() []int {
	return []int{math.MinInt, math.MinInt + 1, -1 << 32, -2001, -100, -3, -1, 0, 1, 2, 3, 4, 5, 6, 13, 14, 15, 16, 99, 100, 1 << 32, 1<<32 + 3, math.MaxInt - 1, math.MaxInt}
}

// wrongDecs: those that may not be.
func wrongDecs() []api.Dec {
	return []api.Dec{
		{Class: api.NaN, Neg: true}, {Class: api.NaN, Digits: "5"}, {Class: api.Inf, Exp: -1}, {Class: 3}, {Class: -1, Digits: "5"}, {Exp: 1}, {Digits: "0"}, {Digits: "05"}, {Digits: "50"}, {Digits: "5a5"}, {Digits: "\xff"},
		{Digits: repeat("7", 1001), Exp: -500}, {Digits: "5", Exp: 2000}, {Digits: "5", Exp: -2002}, {Digits: "5", Exp: math.MaxInt}, {Digits: "5", Exp: math.MinInt},
	}
}

// wrongPrecisions: those that width refuses.
func wrongPrecisions() []api.Precision {
	return []api.Precision{
		{Kind: -1}, {Kind: api.Precs}, {Mode: -1}, {Mode: api.Modes}, {IntMin: -1}, {IntMin: 100}, {IntMax: -1}, {IntMax: 100}, {IntMin: 5, IntMax: 3}, {MinFrac: 1}, {MaxSig: 1}, {Strict: true}, {Step: of("1")},
		frac(3, 2), frac(0, 100), sig(0, 1), both(0, 0, 0, 0), step("-1", 0), step("0", 0), step("1", 100), {IntMin: math.MinInt}, {IntMin: math.MaxInt, IntMax: math.MaxInt},
	}
}

func other(exp int, text string) api.Compact {
	return api.Compact{Exp: exp, Category: api.Other, Pattern: text}
}

// usual: rows for all Exps, by thousands, as locales have them.
func usual() []api.Compact {
	var rows []api.Compact
	for exp := 3; exp <= 14; exp++ {
		rows = append(rows, other(exp, repeat("0", 1+exp%3)+"K"))
	}
	return rows
}

// tables: lists of rows of every sort, whose patterns are moulds.
func tables() [][]api.Compact {
	return [][]api.Compact{
		nil, {}, {other(3, "0K")}, {other(6, "0K")}, {other(14, "0K")}, {other(14, "000K")}, {other(3, "0K"), other(6, "0K")}, {other(6, "0K"), other(3, "0K")}, usual(),
		{other(4, "0K"), other(8, "0K"), other(12, "0K")}, {other(3, "K000"), other(5, "K000"), other(7, "K000")}, {other(3, "0000K"), other(4, "0000K"), other(5, "00K")},
		{other(3, "00000K"), other(4, "00000K"), other(5, "00000K")}, {other(2, "0K"), other(15, "0K")}, {other(0, "0K"), other(-3, "0K"), other(math.MaxInt, "0K"), other(math.MinInt, "0K")},
		{other(3, "0"), other(4, "0K"), other(5, "#K"), other(6, ""), other(7, "000K")}, {other(3, "0"), other(3, "0K")}, {other(3, "0K"), other(3, "00K")},
		{{Exp: 3, Category: api.One, Pattern: "000K"}, other(3, "0K"), {Exp: 6, Category: api.One, Pattern: "0K"}}, {{Exp: 3, Category: api.One, Pattern: "0K"}, other(3, "0K;")},
		{{Exp: 4, Category: 6, Pattern: "0K"}, {Exp: 4, Category: -1, Pattern: "0K"}, {Exp: 4, Category: 0, Pattern: "0K"}},
	}
}

// someRows: of moulds, in any order, with any Exps and categories.
func someRows(r *rand.Rand) []api.Compact {
	if r.IntN(4) == 0 {
		return oneOf(r, tables()...)
	}
	var rows []api.Compact
	for range r.IntN(10) {
		row := other(r.IntN(18), oneOf(r, moulds()...).text)
		if r.IntN(2) == 0 {
			row.Pattern = oneOf(r, "0K", "K0", "00K", "000K", "0000K")
		}
		if r.IntN(4) == 0 {
			row.Category = r.IntN(8) - 1
		}
		if r.IntN(12) == 0 {
			row.Exp = oneOf(r, edges()...)
		}
		rows = append(rows, row)
	}
	return rows
}
