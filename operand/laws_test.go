package operand_test

import (
	"testing"

	"quipu/api"
	"quipu/operand"
	"quipu/width"
)

// P8.3

// eachShown hands over what has operands: all of few digits, those of others, and some of very many.
func eachShown(do func(s api.Shown)) {
	sides := []string{"", "0", "5", "00", "05", "50", "120", "0120"}
	for _, ahead := range sides {
		for _, behind := range sides {
			if ahead == "" && behind == "" {
				continue
			}
			for exp := range 8 {
				do(compact(ahead, behind, exp))
				do(api.Shown{Int: ahead, Frac: behind, Exp: exp})
				do(api.Shown{Int: ahead, Frac: behind, Exp: -exp, Neg: true})
			}
		}
	}
	r := source()
	for i := range 3000 {
		if i%20 == 0 {
			do(someShown(r, 4096, 2001))
		}
		do(someShown(r, 12, 15))
	}
}

func of(t *testing.T, s api.Shown) api.Operands {
	t.Helper()
	x, err := operand.Of(s)
	if err != api.OK {
		t.Errorf("%s: error %d", shownText(s), err)
	}
	return x
}

func TestOfTellsWhatMayBe(t *testing.T) {
	eachShown(func(s api.Shown) {
		expectMay(t, shownText(s), of(t, s), true)
	})
}

func TestSignMakesNoDifference(t *testing.T) {
	eachShown(func(s api.Shown) {
		other := s
		other.Neg = !s.Neg
		expectOf(t, other, of(t, s))
	})
}

func TestNoughtsAheadMakeNoDifference(t *testing.T) {
	eachShown(func(s api.Shown) {
		for _, more := range []int{1, 2, 7, api.MaxShown - len(s.Int)} {
			if len(s.Int)+more <= api.MaxShown {
				other := s
				other.Int = repeat("0", more) + s.Int
				expectOf(t, other, of(t, s))
			}
		}
	})
}

// tenfold answers ten times as much, of digits.
func tenfold(digits string) string {
	if digits == "0" {
		return "0"
	}
	return digits + "0"
}

// A nought more behind changes V and F alone. Where the point has moved beyond the last digit, that nought was there already, and nothing changes.
func TestNoughtBehind(t *testing.T) {
	eachShown(func(s api.Shown) {
		if len(s.Frac) == api.MaxShown {
			return
		}
		want := of(t, s)
		if !s.Compact || s.Exp <= len(s.Frac) {
			want.V++
			want.F = tenfold(want.F)
		}
		s.Frac += "0"
		expectOf(t, s, want)
	})
}

// written answers the number that is shown, without Compact, without an Exp: the point goes on digit by digit.
func written(s api.Shown) api.Shown {
	ahead, behind := s.Int, s.Frac
	for range s.Exp {
		if behind == "" {
			behind = "0"
		}
		ahead, behind = ahead+behind[:1], behind[1:]
	}
	return api.Shown{Neg: s.Neg, Int: ahead, Frac: behind}
}

func TestCompactIsTheNumberThatItShows(t *testing.T) {
	held := 0
	eachShown(func(s api.Shown) {
		if !s.Compact || len(s.Int)+s.Exp > api.MaxShown {
			return
		}
		want := of(t, written(s))
		if want.E != 0 {
			t.Errorf("%s: E %d without Compact", shownText(written(s)), want.E)
		}
		want.E = s.Exp
		expectOf(t, s, want)
		held++
	})
	if held < 1000 {
		t.Error("too few are compact:", held)
	}
}

// The same, by the layer below: the value that is shown, with as many fraction digits.
func TestCompactByItsValue(t *testing.T) {
	held := 0
	eachShown(func(s api.Shown) {
		d, err := width.Value(s)
		fraction := max(0, len(s.Frac)-s.Exp)
		if !s.Compact || err != api.OK || fraction > api.MaxWidth {
			return
		}
		again, err := width.Show(d, api.Precision{Kind: api.PrecFrac, MinFrac: fraction, MaxFrac: fraction})
		if err != api.OK {
			t.Errorf("%s: error %d", shownText(s), err)
		}
		want := of(t, again)
		want.E = s.Exp
		expectOf(t, s, want)
		held++
	})
	if held < 1000 {
		t.Error("too few are compact:", held)
	}
}
