package operand_test

import (
	"math"
	"testing"

	"quipu/api"
)

// P8.1

type row struct {
	s    api.Shown
	want api.Operands
}

// expectRows asks each row with both signs.
func expectRows(t *testing.T, rows ...row) {
	t.Helper()
	for _, x := range rows {
		for _, neg := range []bool{false, true} {
			x.s.Neg = neg
			expectOf(t, x.s, x.want)
		}
	}
}

func TestOfExamples(t *testing.T) {
	expectRows(t, []row{
		{plain("1", ""), ops("1", 0, 0, "0", "0", 0)}, {plain("1", "0"), ops("1", 1, 0, "0", "0", 0)}, {plain("1", "00"), ops("1", 2, 0, "0", "0", 0)}, {plain("1", "3"), ops("1", 1, 1, "3", "3", 0)}, {plain("1", "30"), ops("1", 2, 1, "30", "3", 0)}, {plain("1", "03"), ops("1", 2, 2, "3", "3", 0)}, {plain("01", "230"), ops("1", 3, 2, "230", "23", 0)},
		{compact("1", "2", 6), ops("1200000", 0, 0, "0", "0", 6)}, {compact("1", "2345", 3), ops("1234", 1, 1, "5", "5", 3)}, {api.Shown{Int: "1", Frac: "5", Exp: 3}, ops("1", 1, 1, "5", "5", 0)},
		{plain("", "5"), ops("0", 1, 1, "5", "5", 0)}, {plain("0", ""), ops("0", 0, 0, "0", "0", 0)},
	}...)
	expectRefused(t, api.Shown{Class: api.Inf})
	expectRefused(t, api.Shown{})
	expectRefused(t, compact("1", "", -1))
}

func TestOfWholeDigitsAlone(t *testing.T) {
	expectRows(t, []row{
		{plain("9876543210", ""), ops("9876543210", 0, 0, "0", "0", 0)}, {plain("100", ""), ops("100", 0, 0, "0", "0", 0)}, {plain("00100", ""), ops("100", 0, 0, "0", "0", 0)}, {plain("0001", ""), ops("1", 0, 0, "0", "0", 0)}, {plain("1010", ""), ops("1010", 0, 0, "0", "0", 0)},
		{plain("00", ""), ops("0", 0, 0, "0", "0", 0)}, {plain(repeat("0", 4096), ""), ops("0", 0, 0, "0", "0", 0)}, {plain(repeat("0", 4095)+"7", ""), ops("7", 0, 0, "0", "0", 0)}, {plain(repeat("7", 4096), ""), ops(repeat("7", 4096), 0, 0, "0", "0", 0)}, {plain("1"+repeat("0", 4095), ""), ops("1"+repeat("0", 4095), 0, 0, "0", "0", 0)},
	}...)
}

func TestOfFractionAlone(t *testing.T) {
	expectRows(t, []row{
		{plain("", "0123456789"), ops("0", 10, 10, "123456789", "123456789", 0)}, {plain("", "50"), ops("0", 2, 1, "50", "5", 0)}, {plain("", "05"), ops("0", 2, 2, "5", "5", 0)}, {plain("", "0500"), ops("0", 4, 2, "500", "5", 0)}, {plain("", "00105000"), ops("0", 8, 5, "105000", "105", 0)}, {plain("", "9090"), ops("0", 4, 3, "9090", "909", 0)},
		{plain("", "0"), ops("0", 1, 0, "0", "0", 0)}, {plain("", "000"), ops("0", 3, 0, "0", "0", 0)}, {plain("", repeat("0", 4096)), ops("0", 4096, 0, "0", "0", 0)}, {plain("", repeat("0", 4095)+"7"), ops("0", 4096, 4096, "7", "7", 0)}, {plain("", "7"+repeat("0", 4095)), ops("0", 4096, 1, "7"+repeat("0", 4095), "7", 0)}, {plain("", repeat("7", 4096)), ops("0", 4096, 4096, repeat("7", 4096), repeat("7", 4096), 0)},
	}...)
}

func TestOfBothSides(t *testing.T) {
	expectRows(t, []row{
		{plain("0012", "3400"), ops("12", 4, 2, "3400", "34", 0)}, {plain("120", "034"), ops("120", 3, 3, "34", "34", 0)}, {plain("0", "5"), ops("0", 1, 1, "5", "5", 0)}, {plain("000", "050"), ops("0", 3, 2, "50", "5", 0)}, {plain("000", "000"), ops("0", 3, 0, "0", "0", 0)}, {plain("10", "10"), ops("10", 2, 1, "10", "1", 0)},
		{plain(repeat("8", 4096), repeat("7", 4096)), ops(repeat("8", 4096), 4096, 4096, repeat("7", 4096), repeat("7", 4096), 0)}, {plain(repeat("0", 4096), repeat("0", 4096)), ops("0", 4096, 0, "0", "0", 0)}, {plain("1"+repeat("0", 4095), repeat("0", 4095)+"1"), ops("1"+repeat("0", 4095), 4096, 4096, "1", "1", 0)},
	}...)
}

// An exponent that is not Compact is not looked at, whatever it is.
func TestOfExponents(t *testing.T) {
	for exp := -2001; exp <= 2001; exp++ {
		expectRows(t, []row{
			{api.Shown{Int: "1", Frac: "5", Exp: exp}, ops("1", 1, 1, "5", "5", 0)}, {api.Shown{Int: "100", Exp: exp}, ops("100", 0, 0, "0", "0", 0)}, {api.Shown{Frac: "0500", Exp: exp}, ops("0", 4, 2, "500", "5", 0)}, {api.Shown{Int: "0", Frac: "00", Exp: exp}, ops("0", 2, 0, "0", "0", 0)},
		}...)
	}
}

func TestOfCompact(t *testing.T) {
	expectRows(t, []row{
		// The exponent is 0, below the number of fraction digits, it, and above.
		{compact("12", "345", 0), ops("12", 3, 3, "345", "345", 0)}, {compact("12", "345", 1), ops("123", 2, 2, "45", "45", 1)}, {compact("12", "345", 2), ops("1234", 1, 1, "5", "5", 2)}, {compact("12", "345", 3), ops("12345", 0, 0, "0", "0", 3)}, {compact("12", "345", 4), ops("123450", 0, 0, "0", "0", 4)}, {compact("12", "345", 9), ops("12345000000", 0, 0, "0", "0", 9)},
		{compact("12", "", 0), ops("12", 0, 0, "0", "0", 0)}, {compact("12", "", 1), ops("120", 0, 0, "0", "0", 1)}, {compact("12", "", 3), ops("12000", 0, 0, "0", "0", 3)},
		// Noughts on either side.
		{compact("012", "0304", 1), ops("120", 3, 3, "304", "304", 1)}, {compact("012", "0304", 2), ops("1203", 2, 2, "4", "4", 2)}, {compact("0", "0050", 2), ops("0", 2, 1, "50", "5", 2)}, {compact("0", "0050", 3), ops("5", 1, 0, "0", "0", 3)}, {compact("0", "0050", 4), ops("50", 0, 0, "0", "0", 4)}, {compact("1", "000", 2), ops("100", 1, 0, "0", "0", 2)}, {compact("1", "500", 2), ops("150", 1, 0, "0", "0", 2)}, {compact("1", "5000", 1), ops("15", 3, 0, "0", "0", 1)},
		{compact("", "5", 0), ops("0", 1, 1, "5", "5", 0)}, {compact("", "5", 1), ops("5", 0, 0, "0", "0", 1)}, {compact("", "05", 1), ops("0", 1, 1, "5", "5", 1)}, {compact("", "05", 3), ops("50", 0, 0, "0", "0", 3)},
		{compact("0", "", 0), ops("0", 0, 0, "0", "0", 0)}, {compact("0", "", 6), ops("0", 0, 0, "0", "0", 6)}, {compact("", "000", 2), ops("0", 1, 0, "0", "0", 2)}, {compact("00", "00", 5), ops("0", 0, 0, "0", "0", 5)},
	}...)
}

// At the greatest exponent, with as many digits as may be.
func TestOfCompactEnds(t *testing.T) {
	many := repeat("7", 4096)
	expectRows(t, []row{
		{compact("1", "", 2001), ops("1"+repeat("0", 2001), 0, 0, "0", "0", 2001)}, {compact("", "5", 2001), ops("5"+repeat("0", 2000), 0, 0, "0", "0", 2001)}, {compact("0", "0", 2001), ops("0", 0, 0, "0", "0", 2001)}, {compact("", repeat("0", 2000)+"5", 2001), ops("5", 0, 0, "0", "0", 2001)}, {compact("", repeat("0", 2001)+"5", 2001), ops("0", 1, 1, "5", "5", 2001)},
		{compact(many, "", 2001), ops(many+repeat("0", 2001), 0, 0, "0", "0", 2001)}, {compact(many, many, 2001), ops(repeat("7", 6097), 2095, 2095, repeat("7", 2095), repeat("7", 2095), 2001)}, {compact(many, many, 0), ops(many, 4096, 4096, many, many, 0)}, {compact("", many, 2001), ops(repeat("7", 2001), 2095, 2095, repeat("7", 2095), repeat("7", 2095), 2001)}, {compact(many, repeat("0", 4096), 2001), ops(many+repeat("0", 2001), 2095, 0, "0", "0", 2001)}, {compact(repeat("0", 4096), many, 2001), ops(repeat("7", 2001), 2095, 2095, repeat("7", 2095), repeat("7", 2095), 2001)},
		{compact(many, repeat("8", 2000), 2001), ops(many+repeat("8", 2000)+"0", 0, 0, "0", "0", 2001)}, {compact(many, repeat("8", 2001), 2001), ops(many+repeat("8", 2001), 0, 0, "0", "0", 2001)}, {compact(many, repeat("8", 2002), 2001), ops(many+repeat("8", 2001), 1, 1, "8", "8", 2001)},
	}...)
}

func TestOfReckonedOtherwise(t *testing.T) {
	r := source()
	for i := range 20000 {
		most, far := 7, 9
		if i%50 == 0 {
			most, far = 400, 2001
		}
		s := someShown(r, most, far)
		expectOf(t, s, reckoned(s))
	}
}

// What has no operands.

// expectNone asks with both signs, and both words of Compact.
func expectNone(t *testing.T, list ...api.Shown) {
	t.Helper()
	for _, s := range list {
		for i := range 4 {
			s.Neg, s.Compact = i&1 != 0, i&2 != 0
			expectRefused(t, s)
		}
	}
}

func TestOfRefusesNumbersOfDigits(t *testing.T) {
	expectNone(t, []api.Shown{
		{}, {Exp: 3}, {Exp: -3}, {Exp: 2001},
		plain(repeat("7", 4097), ""), plain(repeat("0", 4096)+"1", ""), plain(repeat("0", 4097), "5"), plain("1", repeat("0", 4097)), plain("", repeat("7", 4097)), plain(repeat("7", 4097), repeat("7", 4097)), plain(repeat("7", 4096), repeat("7", 4097)), plain("", repeat("7", 1<<20)),
	}...)
}

func TestOfRefusesBytes(t *testing.T) {
	for b := range 256 {
		if b >= '0' && b <= '9' {
			continue
		}
		bad := string([]byte{byte(b)})
		for _, digits := range []string{bad, bad + "5", "5" + bad, "5" + bad + "5", "0" + bad, repeat("0", 4095) + bad} {
			expectNone(t, plain(digits, ""), plain("", digits), plain(digits, "1"), plain("1", digits))
		}
	}
	expectNone(t, plain("٣", ""), plain("1", "５"), plain("-1", ""), plain("1.5", ""), plain("1e5", ""), plain("1", "5 "))
}

func TestOfRefusesExponents(t *testing.T) {
	for _, exp := range []int{2002, -2002, 4000, -4000, 1 << 32, -1 << 32, math.MaxInt, math.MinInt} {
		expectNone(t, api.Shown{Int: "1", Exp: exp}, api.Shown{Frac: "5", Exp: exp}, api.Shown{Int: "0", Exp: exp})
	}
	for exp := -2001; exp < 0; exp++ {
		expectRefused(t, compact("1", "5", exp))
		expectRefused(t, compact("0", "", exp))
		expectRefused(t, compact("", repeat("5", 100), exp))
	}
}

func TestOfRefusesClasses(t *testing.T) {
	for _, class := range []int{api.Inf, api.NaN, 3, -1, math.MaxInt, math.MinInt} {
		for _, exp := range []int{0, 3, -3, 2001, -2001, 2002, math.MinInt} {
			expectNone(t, api.Shown{Class: class, Exp: exp}, api.Shown{Class: class, Int: "1", Exp: exp}, api.Shown{Class: class, Frac: "5", Exp: exp})
		}
	}
}
