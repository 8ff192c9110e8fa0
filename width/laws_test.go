package width_test

import (
	"fmt"
	"math/big"
	"testing"

	"quipu/api"
	"quipu/width"
)

// P7.4

// numbers: zeros, middles and what is next to them, those far out, and others; of both signs.
func numbers() []api.Dec {
	list := append(farNumbers(), all("0", "-0")...)
	for _, text := range []string{"0.0004", "0.005", "0.04", "0.05", "0.4", "0.5", "0.6", "0.95", "0.996", "1", "1.005", "1.25", "2.5", "9.5", "9.95", "9.996", "25", "49.99", "50", "99.5", "99.95", "105", "995", "999.96", "1000", "12345.678"} {
		list = append(list, of(text), of("-"+text))
	}
	r := source()
	for range 40 {
		list = append(list, someDec(r, 10, 6))
	}
	return list
}

// eachShown hands over all numbers that are shown by a precision with these bounds of its whole digits.
func eachShown(t *testing.T, low, high int, do func(what string, x api.Dec, p api.Precision, s api.Shown)) {
	t.Helper()
	held, mode := 0, 0
	for _, x := range numbers() {
		for i, p := range precisions() {
			mode = (mode + 1) % api.Modes
			p = by(mode, ints(low, high, p))
			p.Hide = i%3 == 0
			if s, err := width.Show(x, p); err == api.OK {
				do(fmt.Sprintf("%s, %v", short(number(x, api.OK)), p), x, p, s)
				held++
			}
		}
	}
	if held < 3000 {
		t.Error("too few are not refused:", held)
	}
}

// Value of what is shown is what the number was rounded to, and is shown again the same, where IntMax is 0.
func TestShownThereAndBack(t *testing.T) {
	for _, low := range []int{0, 1, 7, 99} {
		eachShown(t, low, 0, func(what string, x api.Dec, p api.Precision, s api.Shown) {
			d, err := width.Value(s)
			expect(t, what, number(d, err), printed(rounded(value(x), p), x.Neg))
			expect(t, what+", again", told(width.Show(d, p)), told(s, api.OK))
		})
	}
}

// With IntMax it is the rest of that, by as many whole digits.
func TestShownRest(t *testing.T) {
	for _, limits := range [][2]int{{0, 1}, {1, 1}, {0, 2}, {2, 5}, {0, 99}, {99, 99}} {
		eachShown(t, limits[0], limits[1], func(what string, x api.Dec, p api.Precision, s api.Shown) {
			rest := new(big.Int).Rem(rounded(value(x), p), power(p.IntMax))
			expect(t, what, number(width.Value(s)), printed(rest, x.Neg))
		})
	}
}

// An infinity and a NaN are there and back, too.
func TestShownThereAndBackWithoutDigits(t *testing.T) {
	for _, x := range all("inf", "-inf", "nan") {
		for _, p := range precisions() {
			s, err := width.Show(x, ints(2, 3, p))
			expect(t, told(s, err), number(width.Value(s)), number(x, api.OK))
		}
	}
}

// fracOf answers how many fraction digits are shown of a number that is.
func fracOf(t *testing.T, x api.Dec, p api.Precision) int {
	t.Helper()
	s, err := width.Show(x, p)
	if err != api.OK {
		t.Errorf("%v: %d", p, err)
	}
	return len(s.Frac)
}

func TestFracWithinItsBounds(t *testing.T) {
	for i, x := range numbers() {
		for _, bounds := range [][2]int{{0, 0}, {0, 1}, {1, 1}, {0, 2}, {2, 2}, {1, 5}, {0, 99}, {50, 99}, {99, 99}} {
			p := by(i%api.Modes, frac(bounds[0], bounds[1]))
			if size := fracOf(t, x, p); size < bounds[0] || size > bounds[1] {
				t.Errorf("%s, %v: %d", short(number(x, api.OK)), p, size)
			}
			if size := fracOf(t, x, hidden(p)); size > bounds[1] || size > 0 && size < bounds[0] {
				t.Errorf("%s, %v, hidden: %d", short(number(x, api.OK)), p, size)
			}
		}
	}
}

// With a greater MaxFrac no fewer fraction digits are shown, by both kinds that have one, wherever the number is not refused.
func TestMoreShowsNoLess(t *testing.T) {
	for _, x := range numbers() {
		for mode := range api.Modes {
			for _, p := range []api.Precision{frac(0, 0), frac(2, 2), frac(0, 91), both(0, 0, 1, 1), both(1, 1, 3, 3), both(0, 0, 2, 5), both(0, 91, 99, 99)} {
				expectNoLess(t, x, by(mode, p))
				if p.Kind == api.PrecBoth {
					expectNoLess(t, x, by(mode, strict(p)))
				}
			}
		}
	}
}

func expectNoLess(t *testing.T, x api.Dec, p api.Precision) {
	t.Helper()
	last := 0
	for range 9 {
		s, err := width.Show(x, p)
		if err != api.OK && err != api.ErrDecRange || err == api.OK && len(s.Frac) < last {
			t.Errorf("%s, %v: error %d, %d digits behind %d", short(number(x, api.OK)), p, err, len(s.Frac), last)
		}
		last = len(s.Frac)
		p.MaxFrac++
	}
}
