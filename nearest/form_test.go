package nearest_test

import (
	"math"
	"strings"
	"testing"

	"quipu/api"
)

func refused(t *testing.T, some ...api.Dec) {
	t.Helper()
	for _, k := range kinds() {
		for _, d := range some {
			if bits, err := k.to(d); bits != 0 || err != api.ErrNearestForm {
				t.Errorf("To%s of %.40v: %x, error %d", k.name, d, bits, err)
			}
		}
	}
}

func taken(t *testing.T, some ...api.Dec) {
	t.Helper()
	for _, k := range kinds() {
		for _, d := range some {
			if _, err := k.to(d); err != api.OK {
				t.Errorf("To%s of %.40v: error %d", k.name, d, err)
			}
		}
	}
}

// P4.1: a Dec that may not be, though it is below 0, too.

func TestNoClass(t *testing.T) {
	for _, class := range []int{3, 4, -1, math.MaxInt, math.MinInt} {
		refused(t, api.Dec{Class: class}, api.Dec{Class: class, Neg: true}, api.Dec{Class: class, Digits: "1"})
	}
}

func TestOtherClassesWithMore(t *testing.T) {
	for _, class := range []int{api.Inf, api.NaN} {
		for _, neg := range []bool{false, true} {
			refused(t,
				api.Dec{Class: class, Neg: neg, Digits: "1"},
				api.Dec{Class: class, Neg: neg, Digits: "0"},
				api.Dec{Class: class, Neg: neg, Exp: 1},
				api.Dec{Class: class, Neg: neg, Exp: -1},
				api.Dec{Class: class, Neg: neg, Digits: "1", Exp: 1},
			)
		}
	}
	refused(t, api.Dec{Class: api.NaN, Neg: true})
}

func TestZeroWithExponent(t *testing.T) {
	for _, exp := range []int{1, -1, 2000, -2000, math.MaxInt, math.MinInt} {
		refused(t, api.Dec{Exp: exp}, api.Dec{Neg: true, Exp: exp})
	}
}

func TestNoughtsAtTheEnds(t *testing.T) {
	for _, digits := range []string{"0", "00", "01", "10", "010", "0001", "1000", "100000000000000000000", "012"} {
		refused(t, api.Dec{Digits: digits}, api.Dec{Digits: digits, Neg: true, Exp: -3})
	}
	taken(t, api.Dec{Digits: "101"}, api.Dec{Digits: "100000000000000000001", Neg: true})
}

func TestNoDigits(t *testing.T) {
	for _, bad := range []string{"a", "/", ":", "-", "+", ".", " ", "e", "_", "\x00", "\xff", "٣", "\n"} {
		for _, digits := range []string{bad, bad + "1", "1" + bad, "1" + bad + "1", "12345678901234567890" + bad + "9"} {
			refused(t, api.Dec{Digits: digits}, api.Dec{Digits: digits, Neg: true, Exp: 5})
		}
	}
}

func TestTooManyDigits(t *testing.T) {
	ones := func(size int) string { return strings.Repeat("1", size) }
	taken(t, api.Dec{Digits: ones(999)}, api.Dec{Digits: ones(1000)}, api.Dec{Digits: ones(1000), Exp: -500})
	refused(t, api.Dec{Digits: ones(1001)}, api.Dec{Digits: ones(1001), Exp: -1001}, api.Dec{Digits: ones(1 << 22)})
}

func TestTooFarPlaces(t *testing.T) {
	for _, digits := range []string{"1", "15", "123456789", strings.Repeat("7", 1000)} {
		size := len(digits)
		taken(t, api.Dec{Digits: digits, Exp: 2000 - size}, api.Dec{Digits: digits, Exp: -2000 - size})
		for _, exp := range []int{2001 - size, -2001 - size, 1 << 32, -1 << 32, math.MaxInt, math.MinInt, math.MaxInt - size, math.MinInt + size} {
			refused(t, api.Dec{Digits: digits, Exp: exp}, api.Dec{Digits: digits, Neg: true, Exp: exp})
		}
	}
}
