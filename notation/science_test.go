package notation_test

import (
	"fmt"
	"math/big"
	"testing"

	"quipu/api"
	"quipu/notation"
)

// P18.1

type scienceRow struct {
	text string
	p    api.Precision
	by   int
	want string
}

func expectScienceRows(t *testing.T, rows ...scienceRow) {
	t.Helper()
	for _, x := range rows {
		what := fmt.Sprintf("Science(%s, %v, %d)", short(x.text), x.p, x.by)
		expect(t, what, told(notation.Science(of(x.text), x.p, x.by)), x.want)
		expect(t, what+" by words", scienceByWords(of(x.text), x.p, x.by), x.want)
	}
}

func TestScienceExamples(t *testing.T) {
	two := frac(0, 2)
	expectScienceRows(t,
		scienceRow{"12345", two, 1, "1.23E4"}, scienceRow{"12345", two, 3, "12.34E3"}, scienceRow{"0.00012", two, 3, "120.E-6"},
		scienceRow{"999.996", two, 1, "1.E3"}, scienceRow{"999999.6", two, 3, "1.E6"}, scienceRow{"0", two, 1, "0.E0"}, scienceRow{"1", two, 2, "notation"},
		scienceRow{"12345", sig(3, 3), 1, "1.23E4"},
	)
}

// Numbers of one digit, and magnitudes about the multiples of 3.
func TestScienceMagnitudes(t *testing.T) {
	ones := map[int]string{-7: "100.E-9", -6: "1.E-6", -5: "10.E-6", -4: "100.E-6", -3: "1.E-3", -2: "10.E-3", -1: "100.E-3", 0: "1.E0", 1: "10.E0", 2: "100.E0", 3: "1.E3", 4: "10.E3", 5: "100.E3", 6: "1.E6", 7: "10.E6"}
	for m, want := range ones {
		expectScienceRows(t, scienceRow{fmt.Sprintf("1e%d", m), everything(), 3, want}, scienceRow{fmt.Sprintf("-1e%d", m), everything(), 3, "-" + want}, scienceRow{fmt.Sprintf("1e%d", m), everything(), 1, fmt.Sprintf("1.E%d", m)})
	}
	expectScienceRows(t,
		scienceRow{"7", frac(2, 2), 1, "7.00E0"}, scienceRow{"-7", frac(2, 2), 3, "-7.00E0"}, scienceRow{"0.123456", everything(), 3, "123.456E-3"}, scienceRow{"0.0123456", everything(), 3, "12.3456E-3"},
		scienceRow{"0.00123456", everything(), 3, "1.23456E-3"}, scienceRow{"0.000123456", everything(), 3, "123.456E-6"}, scienceRow{"123456", everything(), 1, "1.23456E5"}, scienceRow{"0.00123456", everything(), 1, "1.23456E-3"},
	)
}

func TestScienceCarries(t *testing.T) {
	up := func(p api.Precision) api.Precision { return by(api.Up, p) }
	expectScienceRows(t,
		scienceRow{"9.99", frac(0, 1), 1, "1.E1"}, scienceRow{"9.99", frac(1, 1), 3, "10.0E0"}, scienceRow{"-9.99", frac(1, 1), 1, "-1.0E1"}, scienceRow{"999.9", frac(0, 0), 3, "1.E3"}, scienceRow{"-999.9", frac(0, 0), 3, "-1.E3"},
		scienceRow{"999.9", frac(0, 0), 1, "1.E3"}, scienceRow{"0.0999", sig(2, 2), 1, "1.0E-1"}, scienceRow{"0.0999", sig(2, 2), 3, "100.E-3"}, scienceRow{"0.9999", sig(3, 3), 3, "1.00E0"}, scienceRow{"-0.9999", sig(3, 3), 3, "-1.00E0"},
		scienceRow{"0.0009996", frac(0, 0), 3, "1.E-3"}, scienceRow{"9.99", everything(), 1, "9.99E0"}, scienceRow{"999.9", everything(), 3, "999.9E0"},
		scienceRow{"9.5", frac(0, 0), 1, "1.E1"}, scienceRow{"9.5", by(api.HalfOdd, frac(0, 0)), 1, "9.E0"}, scienceRow{"9.5", by(api.HalfDown, frac(0, 0)), 1, "9.E0"}, scienceRow{"9.5", by(api.HalfUp, frac(0, 0)), 1, "1.E1"},
		scienceRow{"9.1", by(api.Ceiling, frac(0, 0)), 1, "1.E1"}, scienceRow{"-9.1", by(api.Ceiling, frac(0, 0)), 1, "-9.E0"}, scienceRow{"-9.1", by(api.Floor, frac(0, 0)), 1, "-1.E1"}, scienceRow{"9.9", by(api.Down, frac(0, 0)), 1, "9.E0"},
		scienceRow{"9.96", both(0, 1, 1, 1), 1, "1.E1"}, scienceRow{"9.96", both(0, 1, 1, 3), 1, "9.96E0"}, scienceRow{"-9.96", strict(both(0, 1, 1, 3)), 1, "-1.E1"}, scienceRow{"999.96", strict(both(1, 1, 1, 9)), 3, "1.0E3"},
		scienceRow{"9.98", step("0.05", 2), 1, "1.00E1"}, scienceRow{"-999.98", step("0.05", 2), 3, "-1.00E3"}, scienceRow{"12345", up(step("50", 0)), 1, "50.E5"}, scienceRow{"12345", up(step("50", 0)), 3, "50.E3"},
		scienceRow{"12345", step("50", 0), 1, "0.E4"}, scienceRow{"999.5", step("3", 0), 3, "999.E0"}, scienceRow{"-8", step("3", 0), 1, "-9.E0"}, scienceRow{"9.5", up(step("3", 0)), 1, "3.E1"},
		scienceRow{"9.996", hidden(frac(2, 2)), 1, "1.E1"}, scienceRow{"9.996", ints(0, 0, frac(2, 2)), 1, "1.00E1"}, scienceRow{"99.96", ints(0, 0, by(api.Down, frac(1, 1))), 1, "9.9E1"},
	)
}

// By a step the number may be carried to more digits the first time, and to fewer ones, or to more again, the second time.
func TestScienceCarriesToOtherDigits(t *testing.T) {
	expectScienceRows(t,
		scienceRow{"9.9", ints(0, 0, step("0.7", 0)), 1, "9.8E0"}, scienceRow{"9.9", by(api.Up, step("0.7", 0)), 1, "1.4E1"}, scienceRow{"9.9", by(api.Up, step("0.8", 0)), 1, "1.6E1"}, scienceRow{"99", by(api.Up, step("10", 0)), 1, "10.E2"},
		scienceRow{"9.7", ints(0, 0, step("5", 0)), 1, "0.E1"}, scienceRow{"9.7", step("5", 2), 1, "0.00E1"}, scienceRow{"9.7", ints(0, 0, step("0.84", 0)), 1, ".84E1"}, scienceRow{"9.7", step("0.84", 0), 1, "0.84E1"}, scienceRow{"9.6", ints(0, 0, step("0.77", 0)), 1, "9.24E0"},
	)
}

func TestScienceWithoutMagnitude(t *testing.T) {
	for _, by := range []int{1, 3} {
		for text, want := range map[string]string{"inf": "inf.E0", "-inf": "-inf.E0", "nan": "nan.E0", "0": "0.00E0", "-0": "-0.00E0"} {
			expectScienceRows(t, scienceRow{text, frac(2, 2), by, want})
		}
		expectScienceRows(t, scienceRow{"0", everything(), by, "0.E0"}, scienceRow{"-0", ints(0, 0, frac(2, 2)), by, "-.00E0"}, scienceRow{"0", ints(0, 0, everything()), by, "0.E0"}, scienceRow{"-0", sig(3, 3), by, "-0.00E0"}, scienceRow{"0", hidden(sig(3, 3)), by, "0.E0"})
	}
}

// The most and the least exponent that there are: those that a Shown may have.
func TestScienceFarOut(t *testing.T) {
	expectScienceRows(t,
		scienceRow{"1e1999", everything(), 1, "1.E1999"}, scienceRow{"1e1999", everything(), 3, "10.E1998"}, scienceRow{"1e-2001", everything(), 1, "1.E-2001"}, scienceRow{"1e-2001", everything(), 3, "1.E-2001"}, scienceRow{"1e-2000", everything(), 3, "10.E-2001"},
		scienceRow{"99e1998", frac(0, 0), 1, "1.E2000"}, scienceRow{"99e1998", frac(0, 0), 3, "99.E1998"}, scienceRow{"9995e1996", sig(1, 3), 1, "range"}, scienceRow{"99e1998", sig(1, 2), 3, "99.E1998"},
		scienceRow{repeat("9", 1000) + "e1000", frac(0, 2), 1, "1.E2000"}, scienceRow{"-" + repeat("9", 1000) + "e-3000", frac(0, 2), 3, "-10.E-2001"},
		scienceRow{"7", step("9e1999", 0), 1, "0.E0"}, scienceRow{"7", by(api.Up, step("9e1999", 0)), 1, "9" + repeat("0", 1999) + ".E1"}, scienceRow{"5e-2001", by(api.Up, step("9e1999", 0)), 3, "9" + repeat("0", 1999) + ".E-1998"},
	)
}

// Whatever by is but 1 and 3, it is refused, ahead of everything else.
func TestScienceByOthers(t *testing.T) {
	for _, by := range edges() {
		if by == 1 || by == 3 {
			continue
		}
		for _, x := range append(wrongDecs(), all("0", "-0", "inf", "nan", "1", "-12345", "1e-7")...) {
			for _, p := range append(wrongPrecisions(), everything(), frac(0, 2), ints(2, 0, sig(1, 2)), ints(0, 5, everything())) {
				expect(t, fmt.Sprintf("Science(%s, %v, %d)", named(x), p, by), told(notation.Science(x, p, by)), "notation")
			}
		}
	}
}

func expectRefused(t *testing.T, x api.Dec, p api.Precision, want string) {
	t.Helper()
	for _, by := range []int{1, 3} {
		expect(t, fmt.Sprintf("Science(%s, %v, %d)", named(x), p, by), told(notation.Science(x, p, by)), want)
	}
}

// What width refuses comes ahead of whole digits that Science does not take; that ahead of what has no magnitude.
func TestScienceRefuses(t *testing.T) {
	tooMany := []api.Precision{ints(2, 0, everything()), ints(99, 0, frac(0, 2)), ints(0, 1, everything()), ints(1, 1, sig(1, 2)), ints(1, 99, frac(0, 0)), ints(2, 2, step("5", 0)), ints(0, 99, both(0, 1, 1, 1))}
	for _, x := range wrongDecs() {
		for _, p := range append(append(wrongPrecisions(), precisions()...), tooMany...) {
			expectRefused(t, x, p, "form")
		}
	}
	numbers := all("0", "-0", "inf", "-inf", "nan", "1", "-1", "12345", "1e1999", "-1e-2001")
	for _, x := range numbers {
		for _, p := range wrongPrecisions() {
			expectRefused(t, x, p, "width")
		}
		for _, p := range tooMany {
			expectRefused(t, x, p, "notation")
		}
	}
	for _, p := range []api.Precision{sig(1, 1), ints(2, 0, sig(1, 1)), ints(0, 3, sig(1, 1))} {
		expectRefused(t, of("99e1998"), p, "range")
	}
	expectRefused(t, of("1"), ints(2, 1, everything()), "width")
}

// What width refuses of the number by its power alone is refused, too: here the first time that it is shown, and then the second time.
func TestScienceRefusesByItsPower(t *testing.T) {
	fine := step("3e-2001", 0)
	expect(t, "shown as it is", toldShort(notation.Short(of("1e-1999"), fine, nil)), "0."+repeat("0", 1999)+"99E0 0")
	expectRefused(t, of("1e-1999"), fine, "range")
	for _, whole := range []int{1, 3} {
		x, p := carriedOnlyOnce(whole)
		expectScience(t, x, p, whole)
		expect(t, "the second time", told(notation.Science(x, p, whole)), "range")
	}
}

// carriedOnlyOnce answers a number of a thousand nines, so many of them ahead of the point, and a step by which it is rounded up to one more digit there. What is shown then has a thousand digits at most; but of the number by the power that it has carried to more.
func carriedOnlyOnce(whole int) (api.Dec, api.Precision) {
	ten := func(exp int) *big.Int { return new(big.Int).Exp(big.NewInt(10), big.NewInt(int64(exp)), nil) }
	above := func(x, s *big.Int) *big.Int {
		return new(big.Int).Add(x, new(big.Int).Mod(new(big.Int).Neg(x), s))
	}
	ends := func(x *big.Int, exp int) bool { return new(big.Int).Mod(x, ten(exp)).Sign() == 0 }
	most := ten(1000 + whole)
	former, latter := new(big.Int).Sub(most, ten(whole)), new(big.Int).Sub(ten(1000), big.NewInt(1))
	for s := new(big.Int).Add(ten(31), big.NewInt(1)); ; s.Add(s, big.NewInt(2)) {
		r := above(former, s)
		if r.Cmp(most) >= 0 && ends(r, whole+1) && !ends(above(latter, s), 1) {
			return of(repeat("9", 1000) + fmt.Sprintf("e%d", whole-1000)), by(api.Up, step(s.String()+"e-1000", 0))
		}
	}
}

// All numbers of few digits, by all kinds and modes.
func TestScienceReckonedOtherwise(t *testing.T) {
	list := precisions()
	for n := 1; n < 1000; n++ {
		for exp := -5; exp <= 3; exp++ {
			x := of(fmt.Sprintf("%de%d", n, exp))
			x.Neg = n%2 == 0
			for i, p := range list {
				expectScience(t, x, by((n+i+exp+5)%api.Modes, p), 1+2*((n+i)%2))
			}
		}
	}
}

func TestScienceOfSomeReckonedOtherwise(t *testing.T) {
	r := source()
	for range 60000 {
		expectScience(t, someDec(r, 7, 9), somePrecision(r, 5), oneOf(r, 1, 3))
	}
	for range 2000 {
		expectScience(t, someDec(r, 300, 1500), somePrecision(r, 99), oneOf(r, 1, 3))
		expectScience(t, someDec(r, 5, 20), withInts(r, somePrecision(r, 5)), r.IntN(6)-1)
	}
}

// Each carry there is, of nines of any count at any place, of both signs, by each kind and mode.
func TestScienceCarriesReckonedOtherwise(t *testing.T) {
	for size := 1; size <= 8; size++ {
		for exp := -12; exp <= 6; exp++ {
			for _, last := range []string{"", "4", "5", "51", "6"} {
				x := of(repeat("9", size) + last + fmt.Sprintf("e%d", exp))
				for mode := range api.Modes {
					for i, p := range precisions() {
						x.Neg = (i+mode+size)%2 == 0
						expectScience(t, x, by(mode, p), 1+2*((i+exp+12)%2))
					}
				}
			}
		}
	}
}
