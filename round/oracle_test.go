package round_test

import (
	"fmt"
	"math/big"
	"math/rand/v2"
	"strconv"
	"strings"
	"testing"

	"quipu/api"
	"quipu/dec"
	"quipu/round"
)

// of answers the Dec of a text that is one.
func of(text string) api.Dec {
	d, err := dec.Parse(text)
	if err != api.OK {
		panic(text)
	}
	return d
}

func all(texts ...string) []api.Dec {
	var list []api.Dec
	for _, text := range texts {
		list = append(list, of(text))
	}
	return list
}

func repeat(digits string, times int) string { return strings.Repeat(digits, times) }

// told answers what a call has answered, all of it: a number's text, or an error's word.
func told(d api.Dec, err api.Errno) string {
	if err != api.OK && d != (api.Dec{}) {
		return "a number beside an error"
	}
	switch err {
	case api.OK:
	case api.ErrDecForm:
		return "form"
	case api.ErrDecRange:
		return "range"
	case api.ErrRoundMode:
		return "mode"
	case api.ErrRoundPlace:
		return "place"
	case api.ErrRoundStep:
		return "step"
	default:
		return "error " + strconv.Itoa(int(err))
	}
	text, err := dec.Print(d)
	if err != api.OK {
		return fmt.Sprintf("what may not be: %v", d)
	}
	return text
}

func expect(t *testing.T, what, got, want string) {
	t.Helper()
	if got != want {
		t.Errorf("%.120s: %.60s, not %.60s", what, got, want)
	}
}

// depth makes whole numbers of all numbers, places and steps that may be: they are reckoned times 10^depth.
const depth = api.MaxPlace

func power(exp int) *big.Int {
	return new(big.Int).Exp(big.NewInt(10), big.NewInt(int64(exp+depth)), nil)
}

// value answers what a finite Dec says, times 10^depth, by another arithmetic.
func value(d api.Dec) *big.Int {
	v, _ := new(big.Int).SetString("0"+d.Digits, 10)
	if v.Mul(v, power(d.Exp)); d.Neg {
		v.Neg(v)
	}
	return v
}

// chosen is the chapter's section 'Words', word by word: x, or the one of its neighbours among the multiples of u that the mode says.
func chosen(x, u *big.Int, mode int) *big.Int {
	times, left := new(big.Int).DivMod(x, u, new(big.Int))
	if left.Sign() == 0 {
		return x
	}
	lesser := new(big.Int).Mul(times, u)
	greater := new(big.Int).Add(lesser, u)
	inner, outer := lesser, greater
	if lesser.CmpAbs(greater) > 0 {
		inner, outer = greater, lesser
	}
	even, odd := lesser, greater
	if times.Bit(0) == 1 {
		even, odd = greater, lesser
	}
	middle := []*big.Int{api.HalfEven: even, api.HalfOdd: odd, api.HalfDown: inner, api.HalfUp: outer}
	switch mode {
	case api.Ceiling:
		return greater
	case api.Floor:
		return lesser
	case api.Down:
		return inner
	case api.Up:
		return outer
	}
	switch new(big.Int).Sub(x, lesser).Cmp(new(big.Int).Sub(greater, x)) {
	case -1:
		return lesser
	case 1:
		return greater
	}
	return middle[mode]
}

// textOf answers the text of a value, with the sign that it had, or that no Dec of it may be.
func textOf(v *big.Int, neg bool) string {
	sign := ""
	if neg {
		sign = "-"
	}
	digits := strings.TrimPrefix(v.String(), "-")
	short := strings.TrimRight(digits, "0")
	exp := len(digits) - len(short) - depth
	switch {
	case short == "":
		return sign + "0"
	case len(short) > 1000 || len(short)+exp > 2000 || len(short)+exp < -2000:
		return "range"
	}
	return sign + short + "e" + strconv.Itoa(exp)
}

// known is a finite number with digits, and its value, reckoned once.
type known struct {
	dec   api.Dec
	value *big.Int
}

// expectAt, expectDigits and expectStep hold a call, by all modes, against the other arithmetic.
func (x known) expectAt(t *testing.T, place int) {
	t.Helper()
	x.byModes(t, "At "+strconv.Itoa(place), power(place), func(mode int) string { return told(round.At(x.dec, place, mode)) })
}

func (x known) expectDigits(t *testing.T, n int) {
	t.Helper()
	unit := power(len(x.dec.Digits) + x.dec.Exp - n)
	x.byModes(t, "Digits "+strconv.Itoa(n), unit, func(mode int) string { return told(round.Digits(x.dec, n, mode)) })
}

func (x known) expectStep(t *testing.T, step known) {
	t.Helper()
	x.byModes(t, "Step "+told(step.dec, api.OK), step.value, func(mode int) string { return told(round.Step(x.dec, step.dec, mode)) })
}

func (x known) byModes(t *testing.T, what string, unit *big.Int, call func(mode int) string) {
	t.Helper()
	for mode := range api.Modes {
		want := textOf(chosen(x.value, unit, mode), x.dec.Neg)
		expect(t, fmt.Sprintf("%s, mode %d, of %s", what, mode, told(x.dec, api.OK)), call(mode), want)
	}
}

func knownOf(list []api.Dec) []known {
	var values []known
	for _, d := range list {
		values = append(values, known{d, value(d)})
	}
	return values
}

// farNumbers: those with digits, of both signs, at every end of what may be.
func farNumbers() []api.Dec {
	nines, threes := repeat("9", 1000), repeat("3", 1000)
	amounts := []string{
		"1e1999", "5e1999", "9e1999", "95e1998", "1e-2001", "5e-2001", "9e-2001", "95e-2002", "1e0", "5e0", "5e-1", "1e999", "1e1000", "1e-1000",
		nines + "e0", nines + "e1000", nines + "e-3000", nines + "e-500", threes + "e1000", threes + "e-3000",
		"1" + repeat("0", 998) + "1e1000", "1" + repeat("0", 998) + "5e-3000", repeat("6", 500) + "5e-250", repeat("9", 999) + "5e-1000",
	}
	var list []api.Dec
	for _, text := range amounts {
		list = append(list, of(text), of("-"+text))
	}
	return list
}

// source tells the same numbers at every run.
func source() *rand.Rand { return rand.New(rand.NewPCG(6, 6)) }

// someDec answers a number with digits, at most so many of them, whose exponent is at most that far from 0. Noughts, fives and nines are many, for the sake of middles and carries.
func someDec(r *rand.Rand, size, far int) api.Dec {
	const likely = "01234567890559"
	digits := strconv.Itoa(1 + r.IntN(9))
	for range r.IntN(size) {
		digits += string(likely[r.IntN(len(likely))])
	}
	return api.Dec{Neg: r.IntN(2) == 0, Digits: strings.TrimRight(digits, "0"), Exp: r.IntN(2*far+1) - far}
}

// P6.2

func TestAtReckonedOtherwise(t *testing.T) {
	r := source()
	for range 3000 {
		d := someDec(r, 12, 8)
		known{d, value(d)}.expectAt(t, d.Exp-2+r.IntN(len(d.Digits)+4))
	}
	for _, x := range knownOf(farNumbers()) {
		first, last := len(x.dec.Digits)+x.dec.Exp, x.dec.Exp
		for _, place := range []int{-4000, -2001, 0, 1999, 2000, 4000, last - 1, last, last + 1, first - 1, first, first + 1} {
			x.expectAt(t, place)
		}
	}
}

func TestDigitsReckonedOtherwise(t *testing.T) {
	r := source()
	for range 3000 {
		d := someDec(r, 12, 8)
		known{d, value(d)}.expectDigits(t, 1+r.IntN(len(d.Digits)+1))
	}
	for _, x := range knownOf(farNumbers()) {
		for _, n := range []int{1, 2, 3, 500, 998, 999, 1000} {
			x.expectDigits(t, n)
		}
	}
}

func TestStepReckonedOtherwise(t *testing.T) {
	r := source()
	for range 3000 {
		d, step := someDec(r, 12, 8), someDec(r, 3, 8)
		step.Neg = false
		known{d, value(d)}.expectStep(t, known{step, value(step)})
	}
	steps := all("1e0", "3e0", "5e-1", "7e20", "1e1999", "3e1999", "1e-2001", "3e-2001", "3e999", "3e998", "7e-900",
		repeat("9", 32)+"e0", repeat("9", 32)+"e1968", repeat("7", 32)+"e-2032", "1"+repeat("0", 30)+"1e-16")
	for _, x := range knownOf(farNumbers()) {
		for _, step := range knownOf(steps) {
			x.expectStep(t, step)
		}
	}
}
