package operand_test

import (
	"math"
	"math/big"
	"regexp"
	"testing"

	"quipu/api"
	"quipu/operand"
)

// P8.2

func TestMayOrdinary(t *testing.T) {
	for _, x := range []api.Operands{
		ops("0", 0, 0, "0", "0", 0), ops("1", 0, 0, "0", "0", 0), ops("9876543210", 0, 0, "0", "0", 3), ops("100", 2, 0, "0", "0", 0), ops("1", 1, 1, "3", "3", 0), ops("1", 2, 1, "30", "3", 0), ops("1", 2, 2, "3", "3", 0), ops("0", 5, 3, "2300", "23", 0), ops("1200000", 0, 0, "0", "0", 6),
		// Nothing asks that W is as small as it could be.
		ops("1", 2, 2, "30", "30", 0), ops("1", 3, 2, "300", "30", 0), ops("1", 2, 2, "0", "0", 0), ops("1", 3, 1, "0", "0", 0),
	} {
		expectMay(t, "ordinary", x, true)
	}
}

// wrongDigits: no numbers, as texts.
func wrongDigits() []string {
	return []string{"", "00", "01", "05", "-1", "+1", "-0", " 1", "1 ", "1.", ".5", "1,0", "1e3", "a", "1a", "a1", "٣", "５", "\xff", "5\xff", "5\x00", "/", ":", "5/", "5:", "0\x00", "inf", "nan"}
}

// With I, T or F in turn as it must not be, the others as they may.
func TestMayRefusesDigits(t *testing.T) {
	for _, wrong := range wrongDigits() {
		expectMay(t, "I", ops(wrong, 9, 8, "50", "5", 0), false)
		expectMay(t, "F", ops("1", 9, 8, wrong, "5", 0), false)
		expectMay(t, "F beside 0", ops("1", 9, 8, wrong, "0", 0), false)
		expectMay(t, "T", ops("1", 9, 8, "50", wrong, 0), false)
		expectMay(t, "T beside 0", ops("1", 9, 8, "0", wrong, 0), false)
		expectMay(t, "F and T", ops("1", 9, 8, wrong+"0", wrong, 0), false)
		expectMay(t, "F and T, as long", ops("1", 9, 9, wrong, wrong, 0), false)
	}
}

func TestMayBytes(t *testing.T) {
	for b := range 256 {
		digit := b >= '0' && b <= '9'
		one := string([]byte{byte(b)})
		for _, x := range []string{one, one + "5", "5" + one, "5" + one + "5"} {
			may := digit && (x == "0" || x[0] != '0')
			expectMay(t, "I", ops(x, 4, 2, "1200", "12", 0), may)
			expectMay(t, "F and T", ops("1", 3, 3, x, x, 0), may)
		}
	}
}

func TestMayLengths(t *testing.T) {
	full := repeat("7", 8192)
	for _, x := range []struct {
		x   api.Operands
		may bool
	}{
		{ops(full, 0, 0, "0", "0", 0), true}, {ops(full+"7", 0, 0, "0", "0", 0), false}, {ops("1"+repeat("0", 8191), 0, 0, "0", "0", 0), true}, {ops("1"+repeat("0", 8192), 0, 0, "0", "0", 0), false}, {ops(repeat("7", 1<<20), 0, 0, "0", "0", 0), false}, {ops(repeat("0", 8192), 0, 0, "0", "0", 0), false},
		{ops("1", 8192, 8192, full, full, 0), true}, {ops("1", 8192, 8192, full+"7", full+"7", 0), false}, {ops("1", 8193, 8193, full+"7", full+"7", 0), false}, {ops("1", 8192, 8192, full, full+"7", 0), false}, {ops("1", 8192, 8192, full+"7", full, 0), false},
		{ops("1", 8192, 1, "7"+repeat("0", 8191), "7", 0), true}, {ops("1", 8193, 1, "7"+repeat("0", 8192), "7", 0), false}, {ops("1", 8192, 1, "7"+repeat("0", 8192), "7", 0), false}, {ops("1", 8192, 8191, full[1:]+"0", full[1:], 0), true}, {ops("1", 8192, 8191, full+"0", full, 0), false}, {ops("1", 8192, 8191, full[1:], full[1:], 0), false},
		{ops(full, 8192, 8192, full, full, 8192), true}, {ops("0", 8192, 0, "0", "0", 8192), true}, {ops("0", 8192, 8192, "0", "0", 0), true}, {ops("0", 8192, 8192, "7", "7", 0), true},
	} {
		expectMay(t, "length", x.x, x.may)
	}
}

// counts goes through numbers about both ends, and to the ends of an int.
func counts(do func(n int, may bool)) {
	for n := -300; n <= 9000; n++ {
		do(n, n >= 0 && n <= 8192)
	}
	for _, n := range []int{math.MinInt, math.MinInt + 1, -1 << 32, -1 << 16, 1 << 16, 1 << 32, 1<<32 + 5, math.MaxInt - 1, math.MaxInt} {
		do(n, false)
	}
}

func TestMayCounts(t *testing.T) {
	counts(func(n int, may bool) {
		expectMay(t, "E", ops("1", 2, 1, "50", "5", n), may)
		expectMay(t, "V", ops("1", n, 0, "0", "0", 0), may)
		expectMay(t, "V and W", ops("1", n, n, "0", "0", 0), may)
		expectMay(t, "V and W of a digit", ops("1", n, n, "5", "5", 0), may && n >= 1)
		expectMay(t, "W", ops("1", 8192, n, "0", "0", 0), may)
		expectMay(t, "W above V", ops("1", 5, n, "0", "0", 0), may && n <= 5)
		expectMay(t, "all", ops("1", n, n, "0", "0", n), may)
	})
	for _, v := range []int{math.MinInt, math.MinInt + 1, -1, 0, 1, 8192, 8193, math.MaxInt} {
		for _, w := range []int{math.MinInt, math.MinInt + 1, -1, 0, 1, 8192, 8193, math.MaxInt} {
			expectMay(t, "V, W", ops("1", v, w, "0", "0", 0), v >= 0 && v <= 8192 && w >= 0 && w <= v)
			expectMay(t, "V, W of a digit", ops("1", v, w, "5", "5", 0), v >= 0 && v <= 8192 && w == v && w >= 1)
		}
	}
}

// T has W digits at most, F is T with V less W noughts behind.
func TestMayFraction(t *testing.T) {
	for _, x := range []struct {
		v, w int
		f, t string
		may  bool
	}{
		{0, 0, "5", "5", false}, {0, 0, "0", "5", false}, {0, 0, "5", "0", false}, {1, 0, "5", "5", false}, {1, 0, "50", "5", false}, {2, 0, "500", "5", false}, {1, 1, "12", "12", false}, {2, 2, "123", "123", false}, {3, 2, "1230", "123", false}, {3, 1, "1200", "12", false},
		{2, 2, "12", "12", true}, {3, 2, "120", "12", true}, {3, 2, "12", "12", false}, {3, 2, "1200", "12", false}, {3, 2, "121", "12", false}, {3, 2, "130", "12", false}, {3, 2, "0", "12", false}, {3, 2, "12", "120", false}, {3, 3, "12", "120", false}, {3, 3, "120", "12", false}, {3, 3, "12", "13", false},
		{5, 3, "700", "7", true}, {5, 3, "70", "7", false}, {5, 3, "7000", "7", false}, {5, 3, "7", "7", false}, {5, 3, "707", "7", false}, {5, 3, "800", "7", false},
		{2, 1, "5", "0", false}, {2, 1, "00", "0", false}, {2, 2, "5", "0", false}, {2, 2, "0", "5", false}, {1, 1, "10", "0", false},
	} {
		expectMay(t, "fraction", ops("1", x.v, x.w, x.f, x.t, 0), x.may)
	}
}

// mayByWords holds operands against the promise, word for word.
func mayByWords(x api.Operands) bool {
	form := regexp.MustCompile(`^(0|[1-9][0-9]*)$`)
	for _, digits := range []string{x.I, x.F, x.T} {
		if !form.MatchString(digits) || len(digits) > 8192 {
			return false
		}
	}
	for _, n := range []int{x.V, x.W, x.E} {
		if n < 0 || n > 8192 {
			return false
		}
	}
	if x.W > x.V || x.F != "0" && len(x.F) > x.V || x.T != "0" && len(x.T) > x.W {
		return false
	}
	return new(big.Int).Mul(amount(x.T), power(x.V-x.W)).String() == x.F
}

// All of few digits, and small counts.
func TestMayByWords(t *testing.T) {
	texts := []string{"", "0", "00", "01", "1", "2", "10", "12", "20", "100", "120", "1000", "1200", "012", "a", "1a", "-1"}
	held := 0
	for _, f := range texts {
		for _, digits := range texts {
			for v := -1; v <= 6; v++ {
				for w := -1; w <= 6; w++ {
					x := ops("7", v, w, f, digits, 0)
					if mayByWords(x) {
						held++
					}
					expectMay(t, "by words", x, mayByWords(x))
				}
			}
		}
	}
	if held < 100 {
		t.Error("too few may be:", held)
	}
}

// What Of tells, with one part changed, is held against the words, too.
func TestMayOfWhatIsNearby(t *testing.T) {
	r := source()
	for range 20000 {
		x, err := operand.Of(someShown(r, 5, 6))
		if err != api.OK {
			t.Fatal(err)
		}
		switch r.IntN(7) {
		case 0:
			x.V += r.IntN(5) - 2
		case 1:
			x.W += r.IntN(5) - 2
		case 2:
			x.F = someDigits(r, 5)
		case 3:
			x.T = someDigits(r, 5)
		case 4:
			x.F, x.T = x.F+"0", x.T+"0"
		case 5:
			x.E = r.IntN(10000) - 900
		case 6:
			x.I = someDigits(r, 3)
		}
		expectMay(t, "nearby", x, mayByWords(x))
	}
}
