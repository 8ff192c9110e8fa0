package affix_test

import (
	"iter"
	"math/rand/v2"

	"quipu/api"
)

func oneOf[T any](r *rand.Rand, list ...T) T { return list[r.IntN(len(list))] }

// someText has few kinds of runes, so that they stand side by side in each way.
func someText(r *rand.Rand, n int) string {
	s := ""
	for range n {
		s += oneOf(r, "'", "'", "'", "a", "b", " ", "€", "\U0001F600", "-", "+", "%", "‰", "¤", "0", "9", "#", "@", ",", ".", ";", "*", "(", "E", "\ufffd", "\x00")
	}
	return s
}

// someTokens may be, unless they are too long; a TokText or a TokCoin that would stand beside another one is a sign instead.
func someTokens(r *rand.Rand, n int) []api.Token {
	var l []api.Token
	for len(l) < n {
		x := oneOf(r, text(someText(r, 1+r.IntN(5))), text("a"), minus, plus, percent, permille, coin(1), coin(2), coin(3))
		if len(l) > 0 && l[len(l)-1].Kind == x.Kind {
			x = oneOf(r, minus, plus, percent, permille)
		}
		l = append(l, x)
	}
	return l
}

// oddToken: perhaps it may be, perhaps not.
func oddToken(r *rand.Rand) api.Token {
	return api.Token{Kind: r.IntN(8) - 1, Many: r.IntN(6) - 1, Text: oneOf(r, "", "", "a", "\x80", "é")}
}

// rowsOf: all texts of at most so many of the pieces, with the empty one.
func rowsOf(most int, pieces ...string) iter.Seq[string] {
	return func(yield func(string) bool) {
		var longer func(s string, left int) bool
		longer = func(s string, left int) bool {
			if !yield(s) {
				return false
			}
			if left == 0 {
				return true
			}
			for _, p := range pieces {
				if !longer(s+p, left-1) {
					return false
				}
			}
			return true
		}
		longer("", most)
	}
}
