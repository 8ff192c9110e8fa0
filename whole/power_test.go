package whole_test

import (
	"math"
	"math/big"
	"strings"
	"testing"

	"quipu/api"
	"quipu/nat"
	"quipu/whole"
)

// P2.3

func TestSmallPowers(t *testing.T) {
	for _, x := range []struct {
		name string
		call func(int) ([]uint64, api.Errno)
		n    int
		want []uint64
	}{
		{"Pow5", whole.Pow5, 0, l(1)},
		{"Pow5", whole.Pow5, 1, l(5)},
		{"Pow5", whole.Pow5, 2, l(25)},
		{"Pow5", whole.Pow5, 3, l(125)},
		{"Pow5", whole.Pow5, 27, l(7450580596923828125)},
		{"Pow5", whole.Pow5, 28, l(359414837200037393, 2)},
		{"Pow10", whole.Pow10, 0, l(1)},
		{"Pow10", whole.Pow10, 1, l(10)},
		{"Pow10", whole.Pow10, 2, l(100)},
		{"Pow10", whole.Pow10, 19, l(10000000000000000000)},
		{"Pow10", whole.Pow10, 20, l(7766279631452241920, 5)},
	} {
		got, err := x.call(x.n)
		sameLimbs(t, x.name, got, x.want)
		if err != api.OK {
			t.Errorf("%s(%d): error %d", x.name, x.n, err)
		}
	}
}

func TestAllPowers(t *testing.T) {
	five, ten := big.NewInt(5), big.NewInt(10)
	for n := 0; n <= api.MaxPower; n++ {
		// All small powers, then some of the great ones, and the last ones of all.
		if n > 300 && n%97 != 0 && n < api.MaxPower-2 {
			continue
		}
		exponent := big.NewInt(int64(n))
		for _, x := range []struct {
			call func(int) ([]uint64, api.Errno)
			base *big.Int
		}{{whole.Pow5, five}, {whole.Pow10, ten}} {
			got, err := x.call(n)
			want := new(big.Int).Exp(x.base, exponent, nil)
			if err != api.OK || toBig(whole.Int{Mag: got}).Cmp(want) != 0 {
				t.Fatalf("%v^%d: %x, error %d", x.base, n, got, err)
			}
			sameLimbs(t, "no nought on top", got, nat.Norm(got))
		}
	}
}

func TestPowersThatAreNone(t *testing.T) {
	for _, n := range []int{-1, -2, math.MinInt, api.MaxPower + 1, api.MaxPower + 2, math.MaxInt} {
		five, err := whole.Pow5(n)
		if err != api.ErrWholePower || len(five) != 0 {
			t.Errorf("Pow5(%d): %x, error %d", n, five, err)
		}
		ten, err := whole.Pow10(n)
		if err != api.ErrWholePower || len(ten) != 0 {
			t.Errorf("Pow10(%d): %x, error %d", n, ten, err)
		}
	}
}

// P2.5: Pow10(n) is 5^n times 2^n, and its digits are a 1 and n noughts.
func TestPowersOfTen(t *testing.T) {
	for _, n := range []int{0, 1, 18, 19, 20, 37, 38, 39, 63, 64, 65, 1000, 8000, api.MaxPower - 1, api.MaxPower} {
		ten, err := whole.Pow10(n)
		if err != api.OK {
			t.Fatalf("Pow10(%d): error %d", n, err)
		}
		five, _ := whole.Pow5(n)
		two, _ := nat.Shl(nat.Of(1), n)
		sameLimbs(t, "5^n times 2^n", ten, nat.Mul(five, two))
		if got := whole.Text(ten); got != "1"+strings.Repeat("0", n) {
			t.Errorf("Text of 10^%d: %s", n, got)
		}
	}
}
