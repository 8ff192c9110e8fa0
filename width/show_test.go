package width_test

import (
	"fmt"
	"strings"
	"testing"

	"quipu/api"
	"quipu/width"
)

// P7.2. What is shown stands here with a point between Int and Frac, also where one of them is empty.

func TestShowExamples(t *testing.T) {
	expectShown(t, []row{
		{"1234.5", everything(), "1234.5"}, {"0.5", everything(), ".5"}, {"0.5", ints(1, 0, everything()), "0.5"}, {"0", everything(), "0."},
		{"1.005", frac(2, 2), "1.00"}, {"1.5", frac(0, 0), "2."}, {"2.5", frac(0, 0), "2."}, {"-0.4", frac(0, 0), "-0."},
		{"9.996", sig(3, 3), "10.0"}, {"1234", sig(1, 2), "1200."}, {"0", ints(1, 0, sig(3, 3)), "0.00"},
		{"1.234", both(0, 1, 1, 3), "1.23"}, {"1.234", strict(both(0, 1, 1, 3)), "1.2"},
		{"1.13", step("0.05", 2), "1.15"}, {"7", step("50", 0), "0."},
		{"12345", ints(0, 3, everything()), "345."}, {"5", hidden(frac(2, 2)), "5."}, {"5.10", hidden(frac(2, 2)), "5.10"},
	}...)
}

func TestShowAll(t *testing.T) {
	expectShown(t, []row{
		{"1", everything(), "1."}, {"-1", everything(), "-1."}, {"1200", everything(), "1200."}, {"10.01", everything(), "10.01"}, {"-100.5", everything(), "-100.5"}, {"0.001", everything(), ".001"}, {"-0.1", everything(), "-.1"},
		{"1e5", everything(), "100000."}, {"12e-1", everything(), "1.2"}, {"12e-2", everything(), ".12"}, {"12e-3", everything(), ".012"}, {"12e0", everything(), "12."}, {"12e1", everything(), "120."},
		{"-0", everything(), "-0."}, {"0", ints(3, 0, everything()), "000."}, {"-0", ints(1, 0, everything()), "-0."},
		{repeat("1234567890", 99) + ".123456789", everything(), repeat("1234567890", 99) + ".123456789"},
	}...)
}

func TestShowFrac(t *testing.T) {
	expectShown(t, []row{
		{"1.5", frac(0, 3), "1.5"}, {"1.5", frac(2, 3), "1.50"}, {"1.5", frac(3, 3), "1.500"}, {"1.23456", frac(0, 3), "1.235"}, {"1.20004", frac(0, 3), "1.2"}, {"1.20004", frac(1, 3), "1.2"}, {"1.20004", frac(2, 3), "1.20"},
		{"0.05", frac(0, 1), "0."}, {"0.05", frac(1, 1), ".0"}, {"0.15", frac(1, 1), ".2"}, {"-0.04", frac(1, 1), "-.0"}, {"-0.04", ints(1, 0, frac(1, 1)), "-0.0"}, {"-1.25", frac(1, 1), "-1.2"},
		{"0", frac(0, 0), "0."}, {"0", frac(0, 5), "0."}, {"0", frac(2, 5), ".00"}, {"-0", frac(2, 5), "-.00"}, {"-0", ints(2, 0, frac(2, 5)), "-00.00"},
		{"12", frac(99, 99), "12." + repeat("0", 99)}, {"1e-99", frac(0, 99), "." + repeat("0", 98) + "1"}, {"1e-100", frac(0, 99), "0."}, {"6e-100", frac(0, 99), "." + repeat("0", 98) + "1"},
		{"1e-2001", by(api.Up, frac(0, 99)), "." + repeat("0", 98) + "1"}, {"-1e-2001", by(api.Ceiling, frac(0, 0)), "-0."},
	}...)
}

func TestShowSig(t *testing.T) {
	expectShown(t, []row{
		{"1", sig(1, 3), "1."}, {"1", sig(2, 3), "1.0"}, {"1", sig(3, 3), "1.00"}, {"12", sig(3, 3), "12.0"}, {"123", sig(3, 3), "123."}, {"1234", sig(3, 3), "1230."}, {"123456", sig(3, 3), "123000."}, {"-123456", sig(3, 4), "-123500."},
		{"0.1", sig(1, 3), ".1"}, {"0.1", sig(3, 3), ".100"}, {"0.001", sig(2, 3), ".0010"}, {"0.0012345", sig(1, 3), ".00123"}, {"-0.00123445", ints(1, 0, sig(5, 5)), "-0.0012344"}, {"1.0004", sig(2, 4), "1.0"}, {"1.0004", sig(1, 4), "1."},
		{"0", sig(1, 1), "0."}, {"0", sig(2, 2), ".0"}, {"0", sig(1, 9), "0."}, {"-0", sig(4, 9), "-.000"}, {"0", ints(2, 0, sig(3, 3)), "00.00"},
		{"0.5", sig(99, 99), ".5" + repeat("0", 98)}, {"5", sig(99, 99), "5." + repeat("0", 98)}, {"1e98", sig(99, 99), "1" + repeat("0", 98) + "."}, {"1e97", sig(99, 99), "1" + repeat("0", 97) + ".0"}, {"1e99", sig(99, 99), "1" + repeat("0", 99) + "."},
	}...)
}

func TestShowBoth(t *testing.T) {
	expectShown(t, []row{
		// The place of MaxFrac is the lesser one, and shows more.
		{"123.456", both(0, 1, 1, 2), "123.5"}, {"123.456", strict(both(0, 1, 1, 2)), "120."}, {"-123.456", both(0, 2, 1, 4), "-123.46"}, {"-123.456", strict(both(0, 2, 1, 4)), "-123.5"},
		// That of MaxSig is.
		{"0.0123456", both(0, 2, 1, 3), ".0123"}, {"0.0123456", strict(both(0, 2, 1, 3)), ".01"}, {"0.00123", both(0, 2, 1, 1), ".001"}, {"0.00123", strict(both(0, 2, 1, 1)), "0."}, {"-0.00123", strict(both(2, 2, 1, 1)), "-.00"},
		// Both are one place.
		{"1.239", both(0, 2, 1, 3), "1.24"}, {"1.239", strict(both(0, 2, 1, 3)), "1.24"},
		// The least number is that of MinFrac, or that of MinSig, with Strict and without.
		{"5", both(2, 4, 1, 4), "5.00"}, {"5", both(1, 4, 4, 4), "5.000"}, {"5", both(3, 4, 4, 4), "5.000"}, {"5", strict(both(2, 4, 1, 4)), "5.00"}, {"5", strict(both(1, 1, 4, 4)), "5.000"}, {"1234", both(2, 2, 1, 1), "1234.00"}, {"1234", strict(both(2, 2, 1, 1)), "1000.00"},
		{"0.05", both(3, 9, 1, 2), ".050"}, {"0.05", both(0, 9, 3, 3), ".0500"}, {"0.05", both(4, 9, 3, 3), ".0500"}, {"0.05", both(5, 9, 3, 3), ".05000"},
		// A zero, handed in or rounded to, has MinSig less 1.
		{"0", both(0, 3, 3, 3), ".00"}, {"0", both(3, 3, 2, 3), ".000"}, {"-0", strict(both(0, 0, 1, 1)), "-0."}, {"0.001", strict(both(0, 1, 4, 4)), ".000"}, {"0.001", strict(both(0, 1, 2, 2)), ".0"},
		// The place is that of x, the least number is by the place of r.
		{"9.996", both(0, 1, 3, 3), "10.0"}, {"9.996", strict(both(0, 0, 4, 4)), "10.00"}, {"0.996", strict(both(0, 1, 3, 3)), "1.00"}, {"0.6", strict(both(0, 0, 2, 2)), "1.0"},
	}...)
}

func TestShowStep(t *testing.T) {
	expectShown(t, []row{
		{"1.12", step("0.05", 2), "1.10"}, {"1.12", step("0.05", 0), "1.1"}, {"1.125", step("0.05", 2), "1.10"}, {"1.175", step("0.05", 0), "1.2"}, {"-1.13", step("0.05", 1), "-1.15"}, {"1", step("0.3", 0), ".9"}, {"1", step("0.3", 3), ".900"},
		{"74", step("50", 0), "50."}, {"75", step("50", 1), "100.0"}, {"-24", step("50", 2), "-.00"}, {"0", step("50", 2), ".00"}, {"-0", step("7", 0), "-0."}, {"25", step("50", 0), "0."}, {"3", step("3", 99), "3." + repeat("0", 99)},
		{"1e-2001", by(api.Up, step("1e1999", 0)), "1" + repeat("0", 1999) + "."}, {"1", by(api.Up, step("1"+repeat("0", 30)+"1e-31", 0)), "1." + repeat("0", 30) + "1"}, {"1e-2001", step("1e-2001", 0), "." + repeat("0", 2000) + "1"},
	}...)
}

// modes tells what all modes show, in the order of their numbers: Ceiling, Floor, Down, Up, HalfEven, HalfDown, HalfUp, HalfOdd.
func modes(x api.Dec, p api.Precision) string {
	var list []string
	for mode := range api.Modes {
		list = append(list, told(width.Show(x, by(mode, p))))
	}
	return strings.Join(list, " ")
}

func TestShowByAllModes(t *testing.T) {
	for _, x := range []row{
		{"2.5", frac(0, 0), "3. 2. 2. 3. 2. 2. 3. 3."}, {"-2.5", frac(0, 0), "-2. -3. -2. -3. -2. -2. -3. -3."}, {"3.5", frac(1, 1), "3.5 3.5 3.5 3.5 3.5 3.5 3.5 3.5"}, {"0.25", frac(1, 1), ".3 .2 .2 .3 .2 .2 .3 .3"}, {"-0.4", frac(0, 0), "-0. -1. -0. -1. -0. -0. -0. -0."},
		{"125", sig(2, 2), "130. 120. 120. 130. 120. 120. 130. 130."}, {"-135", sig(2, 2), "-130. -140. -130. -140. -140. -130. -140. -130."}, {"9.95", sig(2, 2), "10. 9.9 9.9 10. 10. 9.9 10. 9.9"}, {"0.00126", sig(1, 2), ".0013 .0012 .0012 .0013 .0013 .0013 .0013 .0013"},
		{"1.25", both(0, 0, 1, 2), "1.3 1.2 1.2 1.3 1.2 1.2 1.3 1.3"}, {"1.25", strict(both(0, 1, 1, 5)), "1.3 1.2 1.2 1.3 1.2 1.2 1.3 1.3"}, {"-1.35", both(0, 1, 1, 1), "-1.3 -1.4 -1.3 -1.4 -1.4 -1.3 -1.4 -1.3"},
		{"75", step("50", 0), "100. 50. 50. 100. 100. 50. 100. 50."}, {"-0.025", step("0.05", 2), "-.00 -.05 -.00 -.05 -.00 -.00 -.05 -.05"}, {"1.01", step("0.05", 2), "1.05 1.00 1.00 1.05 1.00 1.00 1.00 1.00"},
		{"2.5", everything(), "2.5 2.5 2.5 2.5 2.5 2.5 2.5 2.5"},
	} {
		expect(t, fmt.Sprintf("%s, %v", x.text, x.p), modes(of(x.text), x.p), x.want)
	}
}

func TestShowIntMinAndIntMax(t *testing.T) {
	expectShown(t, []row{
		{"5", ints(1, 0, everything()), "5."}, {"5", ints(2, 0, everything()), "05."}, {"5", ints(99, 0, everything()), repeat("0", 98) + "5."}, {"-12345", ints(3, 0, everything()), "-12345."}, {"0.05", ints(3, 0, everything()), "000.05"},
		{"12345", ints(0, 5, everything()), "12345."}, {"12345", ints(0, 4, everything()), "2345."}, {"12345", ints(0, 1, everything()), "5."}, {"-12345.678", ints(0, 2, everything()), "-45.678"}, {"12345", ints(0, 99, everything()), "12345."},
		// Noughts that are left ahead stay.
		{"100", ints(0, 2, everything()), "00."}, {"10005", ints(0, 3, everything()), "005."}, {"10005", ints(3, 3, everything()), "005."}, {"5", ints(3, 3, everything()), "005."}, {"5", ints(2, 3, everything()), "05."}, {"1e1999", ints(0, 99, everything()), repeat("0", 99) + "."}, {"1e1999", ints(0, 1, everything()), "0."},
		// None ahead of the point: IntMax adds none.
		{"0.5", ints(0, 3, everything()), ".5"}, {"0", ints(0, 3, everything()), "0."}, {"0", ints(0, 3, frac(1, 1)), ".0"}, {"-0", ints(2, 2, frac(1, 1)), "-00.0"},
		// Rounding comes first, by all digits.
		{"999.6", ints(0, 3, frac(0, 0)), "000."}, {"1234.56", ints(0, 2, sig(3, 3)), "30."}, {"12345.678", ints(0, 2, sig(2, 6)), "45.7"}, {"99.96", ints(1, 2, frac(1, 1)), "00.0"}, {"12375", ints(0, 2, step("50", 0)), "00."},
	}...)
}

func TestShowHide(t *testing.T) {
	expectShown(t, []row{
		{"5", hidden(frac(0, 2)), "5."}, {"5", hidden(frac(99, 99)), "5."}, {"5.001", hidden(frac(2, 2)), "5."}, {"5.006", hidden(frac(2, 2)), "5.01"}, {"5.004", hidden(frac(3, 5)), "5.004"}, {"5.2", hidden(frac(3, 5)), "5.200"}, {"-0.001", hidden(frac(2, 2)), "-0."}, {"0", hidden(frac(2, 2)), "0."}, {"-0", hidden(frac(2, 2)), "-0."}, {"0", hidden(ints(3, 0, frac(2, 2))), "000."}, {"0.5", hidden(frac(2, 2)), ".50"},
		{"5", hidden(sig(3, 3)), "5."}, {"5.04", hidden(sig(2, 2)), "5."}, {"5.04", hidden(sig(3, 4)), "5.04"}, {"5.1", hidden(sig(3, 4)), "5.10"}, {"9.996", hidden(sig(3, 3)), "10."}, {"0", hidden(sig(5, 5)), "0."}, {"0.1", hidden(sig(3, 3)), ".100"},
		{"5", hidden(both(2, 2, 3, 3)), "5."}, {"5.5", hidden(both(2, 2, 4, 4)), "5.500"}, {"0.001", hidden(strict(both(1, 1, 3, 3))), "0."},
		{"1.01", hidden(step("0.05", 2)), "1."}, {"1.09", hidden(step("0.05", 2)), "1.10"}, {"7", hidden(step("50", 2)), "0."},
		{"5", hidden(everything()), "5."}, {"5.5", hidden(everything()), "5.5"}, {"0", hidden(everything()), "0."},
		{"100", hidden(ints(0, 2, frac(2, 2))), "00."}, {"100.5", hidden(ints(0, 2, frac(2, 2))), "00.50"},
	}...)
}

// A carry through all nines leads to one more whole digit; what is behind is by where that stands.
func TestShowCarries(t *testing.T) {
	nines := repeat("9", 1000)
	expectShown(t, []row{
		{"9.96", frac(1, 1), "10.0"}, {"-99.96", frac(0, 1), "-100."}, {"0.96", frac(1, 1), "1.0"}, {"0.996", frac(0, 2), "1."}, {"0.96", ints(1, 0, frac(0, 1)), "1."}, {"99.5", ints(2, 0, frac(0, 0)), "100."}, {"99.5", ints(4, 0, frac(0, 0)), "0100."}, {"0.0996", frac(3, 3), ".100"},
		{"99.95", sig(3, 3), "100."}, {"9.995", sig(3, 3), "10.0"}, {"0.9996", sig(3, 3), "1.00"}, {"0.09996", sig(3, 3), ".100"}, {"999.5", sig(3, 5), "999.5"}, {"999.5", sig(1, 3), "1000."}, {"-9996", sig(3, 3), "-10000."},
		{"9.99", step("0.05", 2), "10.00"}, {"99", step("50", 0), "100."},
		{nines, sig(99, 99), "1" + repeat("0", 1000) + "."}, {nines + "e-999", frac(0, 99), "10."}, {nines + "e-1000", frac(99, 99), "1." + repeat("0", 99)}, {nines + "e-1000", sig(99, 99), "1." + repeat("0", 98)}, {nines + "e-3000", sig(99, 99), "." + repeat("0", 1999) + "1" + repeat("0", 98)},
	}...)
}

// Very many digits, and the ends of the exponents: nothing is cut.
func TestShowTheEnds(t *testing.T) {
	nines, ones := repeat("9", 1000), repeat("1", 1000)
	expectShown(t, []row{
		{"1e1999", everything(), "1" + repeat("0", 1999) + "."}, {"-1e-2001", everything(), "-." + repeat("0", 2000) + "1"}, {nines + "e1000", everything(), nines + repeat("0", 1000) + "."}, {nines + "e-3000", everything(), "." + repeat("0", 2000) + nines}, {"-" + nines, everything(), "-" + nines + "."},
		{ones + "e-1", everything(), repeat("1", 999) + ".1"}, {ones + "e-999", everything(), "1." + repeat("1", 999)}, {ones + "e-1000", everything(), "." + ones}, {ones + "e-1001", everything(), ".0" + ones}, {ones + "e1", everything(), ones + "0."},
		{"9e1999", frac(99, 99), "9" + repeat("0", 1999) + "." + repeat("0", 99)}, {nines + "e1000", frac(0, 0), nines + repeat("0", 1000) + "."}, {nines + "e-3000", frac(0, 99), "0."}, {ones + "e-500", frac(0, 99), repeat("1", 500) + "." + repeat("1", 99)},
		{"1e-2001", sig(1, 1), "." + repeat("0", 2000) + "1"}, {"1e-2001", sig(99, 99), "." + repeat("0", 2000) + "1" + repeat("0", 98)}, {"9e1999", sig(99, 99), "9" + repeat("0", 1999) + "."}, {ones + "e1000", sig(1, 99), repeat("1", 99) + repeat("0", 1901) + "."}, {ones + "e-3000", ints(1, 0, sig(1, 99)), "0." + repeat("0", 2000) + repeat("1", 99)},
		{"1e-2001", both(0, 99, 99, 99), "." + repeat("0", 2000) + "1" + repeat("0", 98)}, {"1e-2001", strict(both(0, 99, 1, 1)), "0."}, {ones + "e1000", both(0, 0, 1, 1), ones + repeat("0", 1000) + "."}, {ones + "e1000", strict(both(0, 0, 1, 1)), "1" + repeat("0", 1999) + "."},
	}...)
}

// What a number is rounded to may be none: too far out, or of too many digits.
func TestShowRange(t *testing.T) {
	expectShown(t, []row{
		{"95e1998", by(api.Up, sig(1, 1)), "range"}, {"95e1998", by(api.Down, sig(1, 1)), "9" + repeat("0", 1999) + "."}, {"-95e1998", by(api.Floor, sig(1, 1)), "range"}, {repeat("9", 1000) + "e1000", sig(99, 99), "range"}, {repeat("9", 100) + "e1900", hidden(ints(1, 1, sig(1, 99))), "range"},
		{"95e1998", strict(both(0, 0, 1, 1)), "range"}, {"95e1998", both(0, 0, 1, 1), "95" + repeat("0", 1998) + "."}, {"-95e1998", by(api.HalfOdd, strict(both(0, 9, 1, 1))), "-9" + repeat("0", 1999) + "."},
		{"9e1999", by(api.Up, step("7e1999", 0)), "range"}, {"9e1999", step("7e1999", 0), "7" + repeat("0", 1999) + "."}, {"1e1999", step("3e-2001", 0), "range"}, {"9e1999", step("3e-2001", 0), "9" + repeat("0", 1999) + "."}, {"1e-2001", by(api.Up, step("9e1999", 0)), "9" + repeat("0", 1999) + "."},
	}...)
}

// bare: the numbers without digits.
func bare() []api.Dec { return all("0", "-0", "inf", "-inf", "nan") }

// An infinity and a NaN have no digits, whatever the precision is; a zero stays one by every kind.
func TestShowWithoutDigits(t *testing.T) {
	for _, p := range precisions() {
		for mode := range api.Modes {
			for _, q := range []api.Precision{by(mode, p), by(mode, hidden(p)), by(mode, ints(3, 0, p)), by(mode, ints(99, 99, p)), by(mode, ints(0, 1, hidden(p)))} {
				expectShown(t, []row{{"inf", q, "inf"}, {"-inf", q, "-inf"}, {"nan", q, "nan"}}...)
				expectReckoned(t, of("0"), q)
				expectReckoned(t, of("-0"), q)
			}
		}
	}
}

// The errors in their order: ErrDecForm, ErrWidthForm, ErrDecRange.

func TestShowRefusesDecs(t *testing.T) {
	for _, x := range wrongDecs() {
		for _, p := range append(precisions(), wrongPrecisions()...) {
			expect(t, fmt.Sprintf("%v", p), told(width.Show(x, p)), "form")
		}
	}
}

func TestShowRefusesPrecisions(t *testing.T) {
	for _, p := range wrongPrecisions() {
		for _, x := range append(bare(), all("1", "-0.5", "95e1998", "1e-2001", repeat("9", 1000)+"e1000")...) {
			expect(t, fmt.Sprintf("%s, %v", number(x, api.OK), p), told(width.Show(x, p)), "width")
		}
	}
}

func TestShowRefusesRangeLast(t *testing.T) {
	over := by(api.Up, sig(1, 1))
	far := by(api.Up, step("7e1999", 0))
	expectShown(t, []row{{"95e1998", over, "range"}, {"95e1998", ints(-1, 0, over), "width"}, {"95e1998", ints(5, 3, over), "width"}, {"95e1998", strict(over), "width"}, {"9e1999", far, "range"}, {"9e1999", ints(0, 100, far), "width"}, {"9e1999", by(api.Modes, far), "width"}}...)
	for _, x := range bare() {
		if got := told(width.Show(x, over)); got == "range" {
			t.Error(number(x, api.OK), got)
		}
	}
}
