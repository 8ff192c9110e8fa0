package operand_test

import (
	"fmt"
	"math/big"
	"math/rand/v2"
	"strings"
	"testing"

	"quipu/api"
	"quipu/operand"
)

func repeat(digits string, times int) string { return strings.Repeat(digits, times) }

func plain(ahead, behind string) api.Shown { return api.Shown{Int: ahead, Frac: behind} }

func compact(ahead, behind string, exp int) api.Shown {
	return api.Shown{Int: ahead, Frac: behind, Exp: exp, Compact: true}
}

// ops: the operands in the order of the chapter's examples.
func ops(i string, v, w int, f, t string, e int) api.Operands {
	return api.Operands{I: i, V: v, W: w, F: f, T: t, E: e}
}

// refused: what is answered beside an error.
var refused = api.Operands{}

func short(text string) string {
	if len(text) > 60 {
		return fmt.Sprintf("%s.. (%d bytes)", text[:40], len(text))
	}
	return text
}

func shownText(s api.Shown) string {
	return fmt.Sprintf("class %d, neg %t, %q.%q, exp %d, compact %t", s.Class, s.Neg, short(s.Int), short(s.Frac), s.Exp, s.Compact)
}

func operandsText(x api.Operands) string {
	return fmt.Sprintf("%q %d %d %q %q %d", short(x.I), x.V, x.W, short(x.F), short(x.T), x.E)
}

// expectOf asks for all that Of answers, and that it may be.
func expectOf(t *testing.T, s api.Shown, want api.Operands) {
	t.Helper()
	got, err := operand.Of(s)
	if err != api.OK || got != want {
		t.Errorf("%s: %s, error %d, not %s", shownText(s), operandsText(got), err, operandsText(want))
	}
	if !operand.May(want) {
		t.Errorf("%s: may not be: %s", shownText(s), operandsText(want))
	}
}

func expectRefused(t *testing.T, s api.Shown) {
	t.Helper()
	if got, err := operand.Of(s); err != api.ErrOperandForm || got != refused {
		t.Errorf("%s: %s, error %d, not refused", shownText(s), operandsText(got), err)
	}
}

func expectMay(t *testing.T, what string, x api.Operands, may bool) {
	t.Helper()
	if got := operand.May(x); got != may {
		t.Errorf("%s: May of %s: %t, not %t", what, operandsText(x), got, may)
	}
}

func power(n int) *big.Int {
	return new(big.Int).Exp(big.NewInt(10), big.NewInt(int64(n)), nil)
}

func amount(digits string) *big.Int {
	n, ok := new(big.Int).SetString(digits, 10)
	if !ok {
		panic(digits)
	}
	return n
}

// reckoned answers the operands by numbers, where the program goes by texts.
func reckoned(s api.Shown) api.Operands {
	all, places, exp := amount(s.Int+s.Frac), len(s.Frac), 0
	if s.Compact {
		exp = s.Exp
	}
	places -= exp
	if places < 0 {
		all.Mul(all, power(-places))
		places = 0
	}
	whole, fraction := new(big.Int).QuoRem(all, power(places), new(big.Int))
	used, rest := places, fraction
	for used > 0 {
		tenth, left := new(big.Int).QuoRem(rest, big.NewInt(10), new(big.Int))
		if left.Sign() != 0 {
			break
		}
		used, rest = used-1, tenth
	}
	return ops(whole.String(), places, used, fraction.String(), rest.String(), exp)
}

func source() *rand.Rand { return rand.New(rand.NewPCG(8, 2026)) }

// someDigits: up to so many, noughts more often than others.
func someDigits(r *rand.Rand, most int) string {
	const likely = "0000000123456789"
	var digits strings.Builder
	for range r.IntN(most + 1) {
		digits.WriteByte(likely[r.IntN(len(likely))])
	}
	return digits.String()
}

// someShown: one that has operands.
func someShown(r *rand.Rand, most, far int) api.Shown {
	s := api.Shown{Neg: r.IntN(2) == 0, Int: someDigits(r, most), Frac: someDigits(r, most), Compact: r.IntN(2) == 0}
	if s.Int == "" && s.Frac == "" {
		s.Int = "0"
	}
	s.Exp = r.IntN(far + 1)
	if !s.Compact && r.IntN(2) == 0 {
		s.Exp = -s.Exp
	}
	return s
}
