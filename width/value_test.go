package width_test

import (
	"fmt"
	"math"
	"math/big"
	"strconv"
	"strings"
	"testing"

	"quipu/api"
	"quipu/width"
)

// P7.3

// shownRow: a Shown, and the number that it shows, or an error's word.
type shownRow struct {
	s    api.Shown
	want string
}

// expectValue asks each row with both words of Compact, which is not looked at.
func expectValue(t *testing.T, rows ...shownRow) {
	t.Helper()
	for i, x := range rows {
		for _, compact := range []bool{false, true} {
			x.s.Compact = compact
			expect(t, fmt.Sprintf("row %d: Value of %d %t %s.%s %d", i, x.s.Class, x.s.Neg, short(x.s.Int), short(x.s.Frac), x.s.Exp), number(width.Value(x.s)), x.want)
		}
	}
}

func shown(ahead, behind string, exp int) api.Shown {
	return api.Shown{Int: ahead, Frac: behind, Exp: exp}
}

func TestValue(t *testing.T) {
	expectValue(t, []shownRow{
		{shown("0012", "50", 3), "125e2"}, {shown("1", "", 0), "1e0"}, {shown("", "5", 0), "5e-1"}, {shown("1", "5", 0), "15e-1"}, {shown("120", "", 0), "12e1"}, {shown("120", "0", 0), "12e1"}, {shown("", "005", 0), "5e-3"}, {shown("000", "0050", 0), "5e-3"}, {shown("100", "001", 0), "100001e-3"},
		{shown("1", "5", 3), "15e2"}, {shown("1", "5", -3), "15e-4"}, {shown("1", "", -1), "1e-1"}, {shown("", "5", 1), "5e0"}, {shown("", "0005", 4), "5e0"}, {shown("5000", "", -3), "5e0"}, {shown("9876543210", "0123456789", 0), "98765432100123456789e-10"},
		{shown("0", "", 0), "0"}, {shown("", "0", 0), "0"}, {shown("000", "000", 0), "0"}, {shown("0", "", 2001), "0"}, {shown("0", "0", -2001), "0"}, {shown(repeat("0", 4096), repeat("0", 4096), 2001), "0"},
	}...)
}

func TestValueSigns(t *testing.T) {
	for _, x := range []shownRow{{shown("0012", "50", 3), "125e2"}, {shown("0", "", 0), "0"}, {shown("", "00", 7), "0"}, {shown("", "5", -7), "5e-8"}, {api.Shown{Class: api.Inf}, "inf"}, {api.Shown{Class: api.Inf, Exp: 2001}, "inf"}, {api.Shown{Class: api.Inf, Exp: -2001}, "inf"}} {
		expectValue(t, x)
		x.s.Neg = true
		expectValue(t, shownRow{x.s, "-" + x.want})
	}
	for _, exp := range []int{0, 5, 2001, -2001} {
		expectValue(t, shownRow{api.Shown{Class: api.NaN, Exp: exp}, "nan"}, shownRow{api.Shown{Class: api.NaN, Neg: true, Exp: exp}, "shown"})
	}
}

// What may not be: no digits at all, too many of them, bytes that are none, with classes that have none.
func TestValueRefuses(t *testing.T) {
	expectValue(t, []shownRow{
		{api.Shown{}, "shown"}, {api.Shown{Neg: true}, "shown"}, {api.Shown{Exp: 3}, "shown"},
		{shown(repeat("0", 4095)+"1", "", 0), "1e0"}, {shown(repeat("0", 4096)+"1", "", 0), "shown"}, {shown(repeat("1", 4097), "", 0), "shown"}, {shown("1", repeat("0", 4096), 0), "1e0"}, {shown("1", repeat("0", 4097), 0), "shown"}, {shown("", repeat("0", 4097), 0), "shown"}, {shown(repeat("0", 4096), repeat("0", 4097), 0), "shown"}, {shown(repeat("0", 1<<20), "1", 0), "shown"},
		{api.Shown{Class: api.Inf, Int: "1"}, "shown"}, {api.Shown{Class: api.Inf, Frac: "1"}, "shown"}, {api.Shown{Class: api.Inf, Int: "0", Neg: true}, "shown"}, {api.Shown{Class: api.NaN, Int: "1"}, "shown"}, {api.Shown{Class: api.NaN, Frac: "0"}, "shown"}, {api.Shown{Class: api.NaN, Int: "1", Neg: true}, "shown"},
		{shown("-1", "", 0), "shown"}, {shown("+1", "", 0), "shown"}, {shown("1.5", "", 0), "shown"}, {shown("1e5", "", 0), "shown"}, {shown("1", "5e3", 0), "shown"}, {shown("", "-5", 0), "shown"}, {shown("nan", "", 0), "shown"}, {shown("inf", "", 0), "shown"}, {shown("1,000", "", 0), "shown"}, {shown("٣", "", 0), "shown"}, {shown("1", "５", 0), "shown"},
	}...)
	for _, class := range []int{-1, 3, 4, math.MaxInt, math.MinInt} {
		expectValue(t, shownRow{api.Shown{Class: class}, "shown"}, shownRow{api.Shown{Class: class, Int: "1"}, "shown"}, shownRow{api.Shown{Class: class, Neg: true}, "shown"})
	}
}

func TestValueRefusesBytes(t *testing.T) {
	for b := range 256 {
		if b >= '0' && b <= '9' {
			continue
		}
		bad := string([]byte{byte(b)})
		for _, digits := range []string{bad, bad + "5", "5" + bad, "5" + bad + "5", repeat("0", 4095) + bad} {
			expectValue(t, shownRow{shown(digits, "", 0), "shown"}, shownRow{shown("", digits, 0), "shown"}, shownRow{shown("1", digits, 0), "shown"}, shownRow{shown(digits, "1", 0), "shown"})
		}
	}
}

// Exp is bounded for all classes, and ahead of what no Dec may be.
func TestValueExponents(t *testing.T) {
	for _, exp := range []int{2002, -2002, 4000, -4000, 99999, 1 << 32, math.MaxInt, math.MinInt, math.MinInt + 1} {
		for _, s := range []api.Shown{{Int: "1"}, {Int: "0"}, {Frac: "5", Neg: true}, {Class: api.Inf}, {Class: api.Inf, Neg: true}, {Class: api.NaN}} {
			s.Exp = exp
			expectValue(t, shownRow{s, "shown"})
		}
	}
	expectValue(t, []shownRow{
		{shown("1", "", 1999), "1e1999"}, {shown("1", "", 2000), "range"}, {shown("1", "", 2001), "range"}, {shown("", "1", 2000), "1e1999"}, {shown("", "1", 2001), "range"}, {shown("", "01", 2001), "1e1999"}, {shown("10", "", 1999), "range"}, {shown("1", "", -2001), "1e-2001"}, {shown("", "1", -2000), "1e-2001"}, {shown("", "1", -2001), "range"}, {shown("10", "", -2001), "1e-2000"},
		{shown(repeat("1", 1000), "", 0), repeat("1", 1000) + "e0"}, {shown(repeat("1", 1001), "", 0), "range"}, {shown(repeat("1", 500), repeat("1", 500), 0), repeat("1", 1000) + "e-500"}, {shown(repeat("1", 500), repeat("1", 501), 0), "range"}, {shown("1"+repeat("0", 999), "", 0), "1e999"}, {shown("1"+repeat("0", 999), "5", 0), "range"}, {shown(repeat("0", 3000)+repeat("7", 1000), repeat("0", 4000), 0), repeat("7", 1000) + "e0"},
		{shown("1"+repeat("0", 1999), "", 0), "1e1999"}, {shown("1"+repeat("0", 2000), "", 0), "range"}, {shown("1"+repeat("0", 4000), "", -2001), "1e1999"}, {shown("1"+repeat("0", 4001), "", -2001), "range"}, {shown("", repeat("0", 2000)+"1", 0), "1e-2001"}, {shown("", repeat("0", 2001)+"1", 0), "range"}, {shown("", repeat("0", 4001)+"1", 2001), "1e-2001"}, {shown("", repeat("0", 4002)+"1", 2001), "range"}, {shown("1"+repeat("0", 4095), repeat("0", 4095)+"1", 0), "range"},
	}...)
}

// byReckoning answers what a finite Shown shows, by another arithmetic.
func byReckoning(s api.Shown) string {
	n, _ := new(big.Int).SetString(s.Int+s.Frac, 10)
	exp := s.Exp - len(s.Frac)
	if n.Sign() == 0 {
		return sign(s.Neg) + "0"
	}
	for {
		tenth, left := new(big.Int).DivMod(n, big.NewInt(10), new(big.Int))
		if left.Sign() != 0 {
			break
		}
		n, exp = tenth, exp+1
	}
	size := len(n.String())
	if size > 1000 || size+exp > 2000 || size+exp < -2000 {
		return "range"
	}
	return sign(s.Neg) + n.String() + "e" + strconv.Itoa(exp)
}

func TestValueReckonedOtherwise(t *testing.T) {
	r := source()
	some := func(most int) string {
		const likely = "00000123456789"
		var digits strings.Builder
		for range r.IntN(most) {
			digits.WriteByte(likely[r.IntN(len(likely))])
		}
		return digits.String()
	}
	for i := range 6000 {
		size, far := 9, 12
		if i%20 == 0 {
			size, far = 600, 2001
		}
		s := api.Shown{Neg: r.IntN(2) == 0, Int: some(size), Frac: some(size), Exp: r.IntN(2*far+1) - far}
		if s.Int+s.Frac != "" {
			expectValue(t, shownRow{s, byReckoning(s)})
		}
	}
}
