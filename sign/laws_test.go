package sign_test

import (
	"slices"
	"testing"

	"quipu/affix"
	"quipu/api"
	"quipu/pattern"
	"quipu/sign"
)

// P19.4

func signOf(t *testing.T, x api.Shown, display int) int {
	t.Helper()
	n, err := sign.Of(x, display)
	if err != api.OK || n < -1 || n > 1 {
		t.Errorf("Of(%s, %d): %d, %d", short(x), display, n, err)
	}
	return n
}

// numbers: of each Class, zero and not.
func numbers() []api.Shown {
	return []api.Shown{{}, {Int: "0"}, {Int: "00", Frac: "0"}, {Int: "5"}, {Frac: "5"}, {Int: "0", Frac: "05"}, {Int: "1", Exp: 3, Compact: true}, {Int: "0", Exp: -7}, {Class: api.Inf}, {Class: api.NaN}}
}

// A number and the same one with the other sign: always unlike, never unlike; by SignAuto what has the minus is -1.
func TestOfBothSigns(t *testing.T) {
	r := source()
	list := numbers()
	for range 5000 {
		x := someShown(r)
		x.Neg = false
		list = append(list, x)
	}
	for _, x := range list {
		y := x
		y.Neg = true
		nan := x.Class == api.NaN
		if a, b := signOf(t, x, api.SignAlways), signOf(t, y, api.SignAlways); (a == b) != nan {
			t.Errorf("%s: %d by SignAlways, and %d with a minus", short(x), a, b)
		}
		if a, b := signOf(t, x, api.SignNever), signOf(t, y, api.SignNever); a != 0 || b != 0 {
			t.Errorf("%s: %d by SignNever, and %d with a minus", short(x), a, b)
		}
		if a, b := signOf(t, x, api.SignAuto), signOf(t, y, api.SignAuto); a == -1 || (b == -1) == nan {
			t.Errorf("%s: %d by SignAuto, and %d with a minus", short(x), a, b)
		}
	}
}

// What one display shows less than another is the sign of zero alone.
func TestOfDisplaysDifferInZeroAlone(t *testing.T) {
	for _, x := range numbers() {
		for _, neg := range []bool{false, true} {
			x.Neg = neg
			zero := x.Class == api.Finite && noughtsAlone(x.Int+x.Frac)
			for _, pair := range [][2]int{{api.SignAlways, api.SignExceptZero}, {api.SignAuto, api.SignNegative}} {
				a, b := signOf(t, x, pair[0]), signOf(t, x, pair[1])
				if zero && b != 0 || !zero && a != b {
					t.Errorf("%s: %d by %d, %d by %d", short(x), a, pair[0], b, pair[1])
				}
			}
		}
	}
}

// noughtsAlone tells whether digits have none beside noughts.
func noughtsAlone(digits string) bool { return slices.Max([]byte("0"+digits)) == '0' }

// Without a half for what is below zero, the tokens of -1 and of 1 are unlike: each stands ahead of those of 0.
func TestAffixesOfBothSignsAreUnlike(t *testing.T) {
	r := source()
	for range 5000 {
		p := somePattern(r)
		p.HasNeg = false
		a, b, c := affixesOf(sign.Affixes(p, -1)), affixesOf(sign.Affixes(p, 1)), affixesOf(sign.Affixes(p, 0))
		if slices.Equal(a.before, b.before) || !slices.Equal(a.after, b.after) {
			t.Fatalf("%s: the affixes of -1 %s, those of 1 %s", short(p), short(a), short(b))
		}
		if !slices.Equal(a.before[1:], c.before) || !slices.Equal(b.before[1:], c.before) || !slices.Equal(a.after, c.after) {
			t.Fatalf("%s: the affixes of -1 %s, of 1 %s, of 0 %s", short(p), short(a), short(b), short(c))
		}
	}
}

// Whatever the half for those below zero is, no minus is in what 1 has of it, and there is a plus.
func TestAffixesOfPlusHaveThePlus(t *testing.T) {
	r := source()
	for range 5000 {
		p := somePattern(r)
		p.HasNeg = true
		below := slices.Concat(p.Neg.Prefix, p.Neg.Suffix)
		before, after, err := sign.Affixes(p, 1)
		all := slices.Concat(before, after)
		if err != api.OK || !affix.Has(all, api.TokPlus) || affix.Has(below, api.TokMinus) && affix.Has(all, api.TokMinus) {
			t.Fatalf("Affixes(%s, 1): %s, %s, %d", short(p), short(before), short(after), err)
		}
	}
}

// A pattern with `-` ahead in its second half shows as one without that half.
func TestAffixesOfThePlainSecondHalf(t *testing.T) {
	for _, text := range []string{"0", "a0b", "¤#,##0.00", "#,##0%"} {
		short, _ := pattern.Parse(text)
		long, err := pattern.Parse(text + ";-" + text)
		if err != api.OK {
			t.Fatalf("%q: %d", text, err)
		}
		for n := -1; n <= 1; n++ {
			expectAffixes(t, long, n, affixesOf(sign.Affixes(short, n)))
		}
	}
}

// The three together, as a number with its sign is written.
func TestSignsAreWritten(t *testing.T) {
	p, _ := pattern.Parse("¤0;(¤0)")
	write := func(x api.Shown, display int) string {
		n, _ := sign.Of(x, display)
		before, after, _ := sign.Affixes(p, n)
		s := ""
		for _, piece := range sign.Pieces(before, api.Symbols{Minus: "-", Plus: "+"}, "$") {
			s += piece.Text
		}
		s += x.Int
		for _, piece := range sign.Pieces(after, api.Symbols{Minus: "-", Plus: "+"}, "$") {
			s += piece.Text
		}
		return s
	}
	for _, x := range []struct {
		n       string
		neg     bool
		display int
		want    string
	}{
		{"3", true, api.SignAuto, "($3)"}, {"3", false, api.SignAuto, "$3"}, {"3", false, api.SignAlways, "+$3"}, {"3", true, api.SignNever, "$3"},
		{"0", true, api.SignAuto, "($0)"}, {"0", true, api.SignNegative, "$0"}, {"0", false, api.SignExceptZero, "$0"}, {"3", false, api.SignExceptZero, "+$3"},
	} {
		if s := write(api.Shown{Neg: x.neg, Int: x.n}, x.display); s != x.want {
			t.Errorf("%+v: %q", x, s)
		}
	}
}
