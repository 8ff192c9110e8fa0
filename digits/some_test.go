package digits_test

import (
	"math"
	"math/rand/v2"

	"quipu/api"
)

func source() *rand.Rand { return rand.New(rand.NewPCG(16, 1)) }

func oneOf[T any](r *rand.Rand, list ...T) T { return list[r.IntN(len(list))] }

func someDigits(r *rand.Rand, n int) string {
	text := ""
	for range n {
		text += string(rune('0' + r.IntN(10)))
	}
	return text
}

// someShown may be.
func someShown(r *rand.Rand, most int) api.Shown {
	if r.IntN(20) == 0 {
		class := 1 + r.IntN(2)
		return api.Shown{Class: class, Neg: class == api.Inf && r.IntN(2) == 0, Exp: r.IntN(4003) - 2001}
	}
	whole, fraction := someDigits(r, r.IntN(most+1)), someDigits(r, r.IntN(most+1))
	if whole == "" && fraction == "" {
		whole = "0"
	}
	return api.Shown{Neg: r.IntN(2) == 0, Int: whole, Frac: fraction, Exp: r.IntN(4003) - 2001, Compact: r.IntN(2) == 0}
}

// edges: numbers about which sizes, counts and exponents change.
func edges() []int {
	return []int{math.MinInt, math.MinInt + 1, math.MinInt + 4, -1 << 32, -4097, -100, -2, -1, 0, 1, 2, 3, 98, 99, 100, 4095, 4096, 4097, 1 << 31, 1 << 32, math.MaxInt - 20, math.MaxInt - 4, math.MaxInt - 1, math.MaxInt}
}

func someSizing(r *rand.Rand) sizing {
	size := func() int {
		if r.IntN(10) == 0 {
			return oneOf(r, edges()...)
		}
		return r.IntN(9) - 1
	}
	return sizing{size(), size(), size(), r.IntN(2) == 0}
}

func someText(r *rand.Rand) string {
	return oneOf(r, "", "", "a", "ab", "é", "€", "\U0001F600", "à́", " \u00a0 ", "\x00", "\xff\xfe", "0", "12", "00", ",", ".", "-", "a|b", repeat("z", 64), repeat("é", 100))
}

// someSymbols: of any texts, which a locale need not let be.
func someSymbols(r *rand.Rand) api.Symbols {
	s := oneOf(r, latin(), arabic())
	for i := range s.Digits {
		if r.IntN(6) == 0 {
			s.Digits[i] = someText(r)
		}
	}
	for _, place := range []*string{&s.Decimal, &s.Group, &s.Minus, &s.Plus, &s.Exponent, &s.Infinity, &s.NaN} {
		if r.IntN(4) == 0 {
			*place = someText(r)
		}
	}
	return s
}
