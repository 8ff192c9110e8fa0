package pattern_test

import (
	"iter"
	"math/rand/v2"

	"quipu/api"
)

func oneOf[T any](r *rand.Rand, list ...T) T { return list[r.IntN(len(list))] }

// sometimes: the value, but now and then one of the others.
func sometimes[T any](r *rand.Rand, value T, others ...T) T {
	if r.IntN(12) == 0 {
		return oneOf(r, others...)
	}
	return value
}

func someText(r *rand.Rand, n int) string {
	s := ""
	for range n {
		s += oneOf(r, "'", "a", "b", " ", "€", "\U0001F600", "-", "+", "%", "‰", "¤", "0", "9", "#", "@", ",", ".", ";", "*", "(", "E", "\ufffd", "\x00")
	}
	return s
}

// someAffix may be, unless it is too long.
func someAffix(r *rand.Rand, most int) []api.Token {
	var l []api.Token
	for range r.IntN(most + 1) {
		x := oneOf(r, text(someText(r, 1+r.IntN(5))), text("E"), text("a"), minus, plus, percent, permille, coin(1), coin(2), coin(3))
		if len(l) > 0 && l[len(l)-1].Kind == x.Kind {
			x = oneOf(r, minus, plus, percent, permille)
		}
		l = append(l, x)
	}
	return l
}

func somePad(r *rand.Rand) string {
	return oneOf(r, "x", "*", "'", ";", "0", "#", ",", ".", "E", "+", "-", " ", "é", "¤", "€", "\U0010ffff", "\x00", "\ufffd")
}

// someHalf may be, most of the time; each of its numbers is one at a bound now and then, or just beyond.
func someHalf(r *rand.Rand) api.Sub {
	h := api.Sub{Prefix: someAffix(r, 3), Suffix: someAffix(r, 3)}
	h.IntMin = sometimes(r, r.IntN(6), 31, 32, 33, -1)
	h.FracMax = sometimes(r, r.IntN(5), 31, 32, 33, -1)
	h.FracMin = sometimes(r, r.IntN(max(h.FracMax, 0)+1), h.FracMax+1, -1)
	if r.IntN(2) == 0 {
		h.Primary = sometimes(r, r.IntN(5), 15, 16, 17, -1)
	}
	if h.Primary > 0 && r.IntN(2) == 0 {
		h.Secondary = sometimes(r, r.IntN(5), 15, 16, 17, -1)
	}
	if h.Primary == 0 && r.IntN(2) == 0 || r.IntN(20) == 0 {
		h.ExpMin = sometimes(r, r.IntN(4), 8, 9, 10, -1)
		h.ExpPlus = h.ExpMin > 0 && r.IntN(2) == 0
	}
	if r.IntN(2) == 0 {
		return h
	}
	h.Pad = sometimes(r, somePad(r), "", "xy", "\xff", "é€")
	h.PadAt = sometimes(r, 2*r.IntN(2), 1, 3, -1, 4)
	if h.PadAt == 0 && len(h.Prefix) > 0 || h.PadAt == 2 && len(h.Suffix) > 0 {
		h.PadAt += r.IntN(2)
	}
	h.Width = r.IntN(60)
	h.Width = sometimes(r, h.Width, 98, 99, 100, -1)
	return h
}

func somePattern(r *rand.Rand) api.Pattern {
	p := one(someHalf(r))
	switch r.IntN(12) {
	case 0:
		p.Neg = someHalf(r)
	case 1:
		p.HasNeg = true
	case 2, 3, 4, 5:
		p = two(p.Pos, someHalf(r))
	}
	return p
}

// somePatternText is one of a pattern, most of the time, and seldom in the one form.
func somePatternText(r *rand.Rand) string {
	s := someHalfText(r)
	if r.IntN(3) == 0 {
		s += ";" + someHalfText(r)
	}
	if r.IntN(8) == 0 {
		at := r.IntN(len(s) + 1)
		s = s[:at] + oneOf(r, "0", "#", ",", ".", ";", "*", "*x", "'", "''", "@", "1", "E", "E0", "+", "\xff", "\xc3") + s[at:]
	}
	return s
}

func someHalfText(r *rand.Rand) string {
	at := -1
	if r.IntN(2) == 0 {
		at = r.IntN(4)
	}
	filler := func(here int) string {
		if here == at || r.IntN(60) == 0 {
			return "*" + somePad(r)
		}
		return ""
	}
	return filler(0) + someAffixText(r) + filler(1) + someDigitsText(r) + filler(2) + someAffixText(r) + filler(3)
}

func someAffixText(r *rand.Rand) string {
	s := ""
	for range r.IntN(4) {
		s += oneOf(r, "'"+oneOf(r, "a", "0", ";", "*x", "b-", "€#", "''", "E0")+"'", "''", "a", "E", "E+", "€", "-", "+", "%", "¤", "¤¤", "‰", "'it''s'")
	}
	return s
}

func someDigitsText(r *rand.Rand) string {
	s := repeat("#", r.IntN(6)) + repeat("0", r.IntN(6))
	for range r.IntN(3) {
		at := r.IntN(len(s) + 1)
		s = s[:at] + "," + s[at:]
	}
	if r.IntN(2) == 0 {
		s += "." + repeat("0", r.IntN(3)) + repeat("#", r.IntN(3))
	}
	if r.IntN(3) == 0 {
		s += "E" + repeat("+", r.IntN(2)) + repeat("0", r.IntN(3))
	}
	return s
}

// rowsOf: all texts of at most so many of the pieces, with the empty one.
func rowsOf(most int, pieces ...string) iter.Seq[string] {
	return func(yield func(string) bool) {
		var longer func(s string, left int) bool
		longer = func(s string, left int) bool {
			if !yield(s) {
				return false
			}
			if left == 0 {
				return true
			}
			for _, p := range pieces {
				if !longer(s+p, left-1) {
					return false
				}
			}
			return true
		}
		longer("", most)
	}
}
