package width_test

import (
	"fmt"
	"math/big"
	"math/rand/v2"
	"strconv"
	"strings"
	"testing"

	"quipu/api"
	"quipu/dec"
	"quipu/width"
)

// of answers the Dec of a text that is one.
func of(text string) api.Dec {
	d, err := dec.Parse(text)
	if err != api.OK {
		panic(text)
	}
	return d
}

func all(texts ...string) []api.Dec {
	var list []api.Dec
	for _, text := range texts {
		list = append(list, of(text))
	}
	return list
}

func repeat(digits string, times int) string { return strings.Repeat(digits, times) }

// Precisions of each kind, by HalfEven; what changes one answers another one.

func frac(low, high int) api.Precision {
	return api.Precision{Kind: api.PrecFrac, MinFrac: low, MaxFrac: high, Mode: api.HalfEven}
}

func sig(low, high int) api.Precision {
	return api.Precision{Kind: api.PrecSig, MinSig: low, MaxSig: high, Mode: api.HalfEven}
}

func both(lowFrac, highFrac, lowSig, highSig int) api.Precision {
	return api.Precision{Kind: api.PrecBoth, MinFrac: lowFrac, MaxFrac: highFrac, MinSig: lowSig, MaxSig: highSig, Mode: api.HalfEven}
}

func step(text string, low int) api.Precision {
	return api.Precision{Kind: api.PrecStep, Step: of(text), MinFrac: low, Mode: api.HalfEven}
}

func everything() api.Precision { return api.Precision{Kind: api.PrecAll, Mode: api.HalfEven} }

func strict(p api.Precision) api.Precision {
	p.Strict = true
	return p
}

func hidden(p api.Precision) api.Precision {
	p.Hide = true
	return p
}

func by(mode int, p api.Precision) api.Precision {
	p.Mode = mode
	return p
}

func ints(low, high int, p api.Precision) api.Precision {
	p.IntMin, p.IntMax = low, high
	return p
}

// word names an error.
func word(err api.Errno) string {
	switch err {
	case api.ErrDecForm:
		return "form"
	case api.ErrDecRange:
		return "range"
	case api.ErrWidthForm:
		return "width"
	case api.ErrWidthShown:
		return "shown"
	}
	return "error " + strconv.Itoa(int(err))
}

func sign(neg bool) string {
	if neg {
		return "-"
	}
	return ""
}

// told answers what Show has answered, all of it: the digits with the point between, or an error's word.
func told(s api.Shown, err api.Errno) string {
	bare := s.Int == "" && s.Frac == ""
	switch {
	case err != api.OK && s != api.Shown{}:
		return "a Shown beside an error"
	case err != api.OK:
		return word(err)
	case s.Exp != 0 || s.Compact:
		return fmt.Sprintf("an exponent, or compact: %v", s)
	case s.Class == api.Finite && !bare:
		return sign(s.Neg) + s.Int + "." + s.Frac
	case s.Class == api.Inf && bare:
		return sign(s.Neg) + "inf"
	case s.Class == api.NaN && bare:
		return sign(s.Neg) + "nan"
	}
	return fmt.Sprintf("what may not be: %v", s)
}

// number answers what Value has answered, all of it.
func number(d api.Dec, err api.Errno) string {
	if err != api.OK && d != (api.Dec{}) {
		return "a number beside an error"
	}
	if err != api.OK {
		return word(err)
	}
	text, err := dec.Print(d)
	if err != api.OK {
		return fmt.Sprintf("what may not be: %v", d)
	}
	return text
}

func expect(t *testing.T, what, got, want string) {
	t.Helper()
	if got != want {
		t.Errorf("%.300s: %s, not %s", what, short(got), short(want))
	}
}

func short(text string) string {
	if len(text) > 60 {
		return fmt.Sprintf("%s..%s (%d bytes)", text[:30], text[len(text)-20:], len(text))
	}
	return text
}

// row: a number, a precision, what is shown.
type row struct {
	text string
	p    api.Precision
	want string
}

func expectShown(t *testing.T, rows ...row) {
	t.Helper()
	for i, x := range rows {
		expect(t, fmt.Sprintf("row %d: Show of %s, %v", i, short(x.text), x.p), told(width.Show(of(x.text), x.p)), x.want)
	}
}

// depth makes whole numbers of all numbers, places and steps that may be: they are reckoned times 10^depth.
const depth = 4000

func power(exp int) *big.Int {
	return new(big.Int).Exp(big.NewInt(10), big.NewInt(int64(exp+depth)), nil)
}

// value answers what a finite Dec says, times 10^depth, by another arithmetic.
func value(d api.Dec) *big.Int {
	v, _ := new(big.Int).SetString("0"+d.Digits, 10)
	if v.Mul(v, power(d.Exp)); d.Neg {
		v.Neg(v)
	}
	return v
}

// amount answers the decimal digits of a value, without a sign.
func amount(v *big.Int) string { return strings.TrimPrefix(v.String(), "-") }

// placeOf answers the place of a value that is not 0.
func placeOf(v *big.Int) int { return len(amount(v)) - depth }

// printed answers the text of a value, with the sign that it had, or that no Dec of it may be.
func printed(v *big.Int, neg bool) string {
	digits := amount(v)
	bare := strings.TrimRight(digits, "0")
	exp := len(digits) - len(bare) - depth
	switch {
	case bare == "":
		return sign(neg) + "0"
	case len(bare) > 1000 || len(bare)+exp > 2000 || len(bare)+exp < -2000:
		return "range"
	}
	return sign(neg) + bare + "e" + strconv.Itoa(exp)
}

// chosen is chapter 6, section 'Words': x, or the one of its neighbours among the multiples of u that the mode says.
func chosen(x, u *big.Int, mode int) *big.Int {
	times, left := new(big.Int).DivMod(x, u, new(big.Int))
	if left.Sign() == 0 {
		return x
	}
	lesser := new(big.Int).Mul(times, u)
	greater := new(big.Int).Add(lesser, u)
	inner, outer := lesser, greater
	if lesser.CmpAbs(greater) > 0 {
		inner, outer = greater, lesser
	}
	even, odd := lesser, greater
	if times.Bit(0) == 1 {
		even, odd = greater, lesser
	}
	switch mode {
	case api.Ceiling:
		return greater
	case api.Floor:
		return lesser
	case api.Down:
		return inner
	case api.Up:
		return outer
	}
	switch new(big.Int).Sub(x, lesser).Cmp(new(big.Int).Sub(greater, x)) {
	case -1:
		return lesser
	case 1:
		return greater
	}
	return map[int]*big.Int{api.HalfEven: even, api.HalfOdd: odd, api.HalfDown: inner, api.HalfUp: outer}[mode]
}

// rounded is the table of chapter 7, section 'Words': what the value of a finite number is rounded to.
func rounded(x *big.Int, p api.Precision) *big.Int {
	if x.Sign() == 0 {
		return x
	}
	var unit *big.Int
	switch p.Kind {
	case api.PrecAll:
		return x
	case api.PrecFrac:
		unit = power(-p.MaxFrac)
	case api.PrecSig:
		unit = power(placeOf(x) - p.MaxSig)
	case api.PrecBoth:
		lesser, greater := -p.MaxFrac, placeOf(x)-p.MaxSig
		if lesser > greater {
			lesser, greater = greater, lesser
		}
		unit = power(lesser)
		if p.Strict {
			unit = power(greater)
		}
	case api.PrecStep:
		unit = value(p.Step)
	}
	return chosen(x, unit, p.Mode)
}

// least is that table's last column, of a value that is rounded.
func least(r *big.Int, p api.Precision) int {
	most := p.MinFrac
	if p.Kind == api.PrecSig || p.Kind == api.PrecBoth {
		place := 1
		if r.Sign() != 0 {
			place = placeOf(r)
		}
		most = max(most, p.MinSig-place)
	}
	return most
}

// reckoned answers what P7.2 says of a finite number, digit by digit.
func reckoned(x api.Dec, p api.Precision) string {
	r := rounded(value(x), p)
	if printed(r, x.Neg) == "range" {
		return "range"
	}
	digits := fmt.Sprintf("%0*s", depth+1, amount(r))
	whole := strings.TrimLeft(digits[:len(digits)-depth], "0")
	for len(whole) < p.IntMin {
		whole = "0" + whole
	}
	for p.IntMax > 0 && len(whole) > p.IntMax {
		whole = whole[1:]
	}
	fraction := strings.TrimRight(digits[len(digits)-depth:], "0")
	for len(fraction) < least(r, p) {
		fraction += "0"
	}
	if p.Hide && strings.Trim(fraction, "0") == "" {
		fraction = ""
	}
	if whole == "" && fraction == "" {
		whole = "0"
	}
	return sign(x.Neg) + whole + "." + fraction
}

// source tells the same numbers at every run.
func source() *rand.Rand { return rand.New(rand.NewPCG(7, 7)) }

// someDec answers a number with digits, at most so many of them, whose exponent is at most that far from 0. Noughts, fives and nines are many, for the sake of middles and carries.
func someDec(r *rand.Rand, size, far int) api.Dec {
	const likely = "0123456789055999"
	digits := strconv.Itoa(1 + r.IntN(9))
	for range r.IntN(size) {
		digits += string(likely[r.IntN(len(likely))])
	}
	return api.Dec{Neg: r.IntN(2) == 0, Digits: strings.TrimRight(digits, "0"), Exp: r.IntN(2*far+1) - far}
}

// somePrecision answers one that may be, of any kind, with no more than so many digits each way.
func somePrecision(r *rand.Rand, most int) api.Precision {
	highFrac, highSig := r.IntN(most+1), 1+r.IntN(most)
	lowFrac, lowSig := r.IntN(highFrac+1), 1+r.IntN(highSig)
	p := [api.Precs]api.Precision{
		api.PrecAll:  everything(),
		api.PrecFrac: frac(lowFrac, highFrac),
		api.PrecSig:  sig(lowSig, highSig),
		api.PrecBoth: both(lowFrac, highFrac, lowSig, highSig),
		api.PrecStep: step([]string{"1", "0.05", "50", "0.3", "7e-3", "1e3", "0.0025"}[r.IntN(7)], lowFrac),
	}[r.IntN(api.Precs)]
	p.Strict = p.Kind == api.PrecBoth && r.IntN(2) == 0
	p.Mode, p.Hide, p.IntMin = r.IntN(api.Modes), r.IntN(3) == 0, r.IntN(most+1)
	if r.IntN(3) == 0 {
		p.IntMax = min(max(1, p.IntMin)+r.IntN(3), api.MaxWidth)
	}
	return p
}

// farNumbers: those with digits, of both signs, at every end of what may be.
func farNumbers() []api.Dec {
	nines, threes := repeat("9", 1000), repeat("3", 1000)
	amounts := []string{
		"1e1999", "5e1999", "9e1999", "95e1998", "1e-2001", "5e-2001", "9e-2001", "95e-2002", "1e0", "5e-1", "1e999", "1e-1000",
		nines + "e0", nines + "e1000", nines + "e-3000", nines + "e-500", nines + "e-999", nines + "e-1000", threes + "e1000", threes + "e-3000",
		"1" + repeat("0", 998) + "1e1000", "1" + repeat("0", 998) + "5e-3000", repeat("6", 500) + "5e-250",
	}
	var list []api.Dec
	for _, text := range amounts {
		list = append(list, of(text), of("-"+text))
	}
	return list
}

// precisions: those of every kind, with and without digits, at both ends of what each may be.
func precisions() []api.Precision {
	list := []api.Precision{
		everything(), frac(0, 0), frac(2, 2), frac(0, 3), frac(1, 4), frac(0, 99), frac(99, 99), sig(1, 1), sig(3, 3), sig(1, 2), sig(2, 5), sig(1, 99), sig(99, 99),
		step("1", 0), step("0.05", 2), step("50", 1), step("3", 99), step("7e1999", 0), step("3e-2001", 0), step(repeat("7", 32)+"e-16", 3),
	}
	for _, p := range []api.Precision{both(0, 0, 1, 1), both(0, 1, 1, 3), both(2, 4, 2, 3), both(3, 3, 1, 1), both(0, 1, 4, 9), both(99, 99, 99, 99), both(0, 99, 1, 1), both(0, 0, 1, 99)} {
		list = append(list, p, strict(p))
	}
	return list
}

// P7.2

func expectReckoned(t *testing.T, x api.Dec, p api.Precision) {
	t.Helper()
	expect(t, fmt.Sprintf("Show of %s, %v", short(number(x, api.OK)), p), told(width.Show(x, p)), reckoned(x, p))
}

func TestShowReckonedOtherwise(t *testing.T) {
	r := source()
	for range 15000 {
		expectReckoned(t, someDec(r, 9, 8), somePrecision(r, 6))
	}
	for range 2000 {
		expectReckoned(t, someDec(r, 300, 200), somePrecision(r, 99))
	}
}

func TestShowFarReckonedOtherwise(t *testing.T) {
	mode := 0
	for _, x := range farNumbers() {
		for _, p := range precisions() {
			for _, limits := range [][2]int{{0, 0}, {1, 0}, {99, 0}, {2, 5}} {
				mode = (mode + 1) % api.Modes
				expectReckoned(t, x, by(mode, ints(limits[0], limits[1], p)))
			}
			expectReckoned(t, x, hidden(by(mode, p)))
		}
	}
}
