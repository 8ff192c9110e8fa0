package dec_test

import (
	"fmt"
	"math"
	"math/big"
	"strconv"
	"strings"
	"testing"

	"quipu/api"
)

// of makes a Dec of the text that Print should tell, part by part, without the package.
func of(text string) api.Dec {
	rest, neg := strings.CutPrefix(text, "-")
	switch rest {
	case "nan":
		return api.Dec{Class: api.NaN, Neg: neg}
	case "inf":
		return api.Dec{Class: api.Inf, Neg: neg}
	case "0":
		return api.Dec{Neg: neg}
	}
	digits, exp, _ := strings.Cut(rest, "e")
	n, err := strconv.Atoi(exp)
	if err != nil {
		panic(err)
	}
	return api.Dec{Neg: neg, Digits: digits, Exp: n}
}

func errorOf(word string) api.Errno {
	switch word {
	case "text":
		return api.ErrDecText
	case "range":
		return api.ErrDecRange
	case "form":
		return api.ErrDecForm
	}
	return api.OK
}

// expect holds a call's answer, whole, against a Dec's text, or an error's word.
func expect(t *testing.T, what, want string) func(api.Dec, api.Errno) {
	return func(d api.Dec, err api.Errno) {
		t.Helper()
		wanted := api.Dec{}
		wantedErr := errorOf(want)
		if wantedErr == api.OK {
			wanted = of(want)
		}
		if d != wanted || err != wantedErr {
			t.Errorf("%.90s: %s, error %d, not %.40s", what, show(d), err, want)
		}
	}
}

// show tells any Dec, right or wrong, in few bytes.
func show(d api.Dec) string {
	return fmt.Sprintf("{%d %t %.20q of %d, %d}", d.Class, d.Neg, d.Digits, len(d.Digits), d.Exp)
}

// depth makes whole numbers of all sums and products of Decs that may be: they are reckoned times 10^depth.
const depth = 6000

func power(n int) *big.Int {
	return new(big.Int).Exp(big.NewInt(10), big.NewInt(int64(n)), nil)
}

// value answers what a finite Dec says, times 10^depth, by another arithmetic.
func value(d api.Dec) *big.Int {
	v, _ := new(big.Int).SetString("0"+d.Digits, 10)
	if v.Mul(v, power(d.Exp+depth)); d.Neg {
		v.Neg(v)
	}
	return v
}

// textOf answers the text of the Dec of a value, or that it has none; a zero is below, if it is asked to be.
func textOf(v *big.Int, below bool) string {
	if v.Sign() == 0 && below {
		return "-0"
	}
	if v.Sign() == 0 {
		return "0"
	}
	text := v.String()
	short := strings.TrimRight(text, "0")
	size := len(strings.TrimPrefix(short, "-"))
	exp := len(text) - len(short) - depth
	if size > 1000 || size+exp > 2000 || size+exp < -2000 {
		return "range"
	}
	return short + "e" + strconv.Itoa(exp)
}

// textOfDec tells any Dec that may be.
func textOfDec(d api.Dec) string {
	switch {
	case d.Class == api.Finite:
		return textOf(value(d), d.Neg)
	case d.Class == api.NaN:
		return "nan"
	case d.Neg:
		return "-inf"
	}
	return "inf"
}

// chance goes through the same numbers at every run, which have no order.
type chance struct{ state uint64 }

func (c *chance) below(end int) int {
	c.state = c.state*2862933555777941757 + 3037000493
	return int(c.state >> 33 % uint64(end))
}

// dec answers a finite Dec of at most so many digits, whose exponent is that far from 0 at the most.
func (c *chance) dec(size, far int) api.Dec {
	var digits strings.Builder
	for i := range 1 + c.below(size) {
		digit := c.below(10)
		if i == 0 || digit == 0 && c.below(2) == 0 {
			digit = 1 + c.below(9)
		}
		digits.WriteByte(byte('0' + digit))
	}
	return api.Dec{Neg: c.below(2) == 0, Digits: strings.TrimRight(digits.String(), "0"), Exp: c.below(2*far+1) - far}
}

func repeat(digit string, size int) string { return strings.Repeat(digit, size) }

// edges: Decs of every class and sign, and at every end of what may be.
func edges() []api.Dec {
	amounts := []string{
		"nan", "inf", "0", "1e0", "2e0", "5e0", "1e1", "5e-1", "15e-1", "999e-2", "1e-2", "1e-5", "1e999", "1e1000", "1e1500", "1e-1500",
		"1e1999", "9e1999", "11e1998", "1e-2001", "9e-2001", "99e-2002", "101e-2003",
		repeat("9", 1000) + "e1000", repeat("9", 1000) + "e-3000", repeat("9", 1000) + "e0", repeat("9", 1000) + "e-500",
		repeat("1", 1000) + "e1000", repeat("1", 1000) + "e-3000", repeat("1", 999) + "e1001", repeat("3", 999) + "e-2999",
		"1" + repeat("0", 998) + "1e-3000", "1" + repeat("0", 998) + "1e1000", repeat("8", 500) + "e-250",
	}
	var all []api.Dec
	for _, text := range amounts {
		all = append(all, of(text))
		if text != "nan" {
			all = append(all, of("-"+text))
		}
	}
	return all
}

// decs: the edges, and others of all sizes.
func decs(others int) []api.Dec {
	all := edges()
	c := chance{state: 5}
	for i := range others {
		size, far := 1+c.below(20), 30
		if i%4 == 0 {
			size, far = 1000, 1000
		}
		all = append(all, c.dec(size, far))
	}
	return all
}

// known is a finite Dec, and its value, reckoned once.
type known struct {
	dec   api.Dec
	value *big.Int
}

func valued(others int) []known {
	var all []known
	for _, d := range decs(others) {
		if d.Class == api.Finite {
			all = append(all, known{d, value(d)})
		}
	}
	return all
}

// wrongDecs: those that may not be, of every kind.
func wrongDecs() []api.Dec {
	all := []api.Dec{{Class: api.NaN, Neg: true}}
	for _, class := range []int{api.NaN + 1, api.NaN + 2, -1, math.MaxInt, math.MinInt} {
		all = append(all, api.Dec{Class: class}, api.Dec{Class: class, Neg: true}, api.Dec{Class: class, Digits: "5", Exp: 2})
	}
	for _, class := range []int{api.Inf, api.NaN} {
		all = append(all, api.Dec{Class: class, Digits: "5"}, api.Dec{Class: class, Digits: "0"}, api.Dec{Class: class, Exp: 1}, api.Dec{Class: class, Exp: -1})
	}
	for _, exp := range []int{1, -1, api.MaxExp, -api.MaxExp, math.MaxInt, math.MinInt} {
		all = append(all, api.Dec{Exp: exp}, api.Dec{Neg: true, Exp: exp})
	}
	for _, digits := range []string{"0", "00", "05", "50", "050", "0005", "5000", repeat("0", 1000), repeat("1", 999) + "0", "0" + repeat("1", 999)} {
		all = append(all, api.Dec{Digits: digits}, api.Dec{Digits: digits, Neg: true, Exp: -2})
	}
	for _, size := range []int{1001, 1002, 5000, 1 << 20} {
		all = append(all, api.Dec{Digits: repeat("7", size), Exp: -size}, api.Dec{Digits: repeat("7", size), Exp: -500})
	}
	return append(append(all, wrongPlaces()...), wrongBytes()...)
}

func wrongPlaces() []api.Dec {
	var all []api.Dec
	for _, digits := range []string{"5", "37", repeat("5", 999), repeat("5", 1000)} {
		for _, place := range []int{2001, -2001, 2002, 1 << 40, -1 << 40, math.MaxInt, math.MinInt + 2000} {
			all = append(all, api.Dec{Digits: digits, Exp: place - len(digits)}, api.Dec{Digits: digits, Neg: true, Exp: place - len(digits)})
		}
		for _, exp := range []int{math.MaxInt, math.MaxInt - len(digits), math.MinInt, math.MinInt + 1} {
			all = append(all, api.Dec{Digits: digits, Exp: exp})
		}
	}
	return all
}

func wrongBytes() []api.Dec {
	var all []api.Dec
	for b := range 256 {
		if b >= '0' && b <= '9' {
			continue
		}
		bad := string([]byte{byte(b)})
		for _, digits := range []string{bad, bad + "5", "5" + bad, "5" + bad + "5"} {
			all = append(all, api.Dec{Digits: digits})
		}
	}
	return append(all, api.Dec{Digits: "٣"}, api.Dec{Digits: "1５1"})
}
