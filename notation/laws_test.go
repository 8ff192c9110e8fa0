package notation_test

import (
	"fmt"
	"slices"
	"testing"

	"quipu/api"
	"quipu/notation"
	"quipu/width"
)

// numbers: zeros, those without digits, those of few digits, carries, and those far out; of both signs.
func numbers() []api.Dec {
	list := all("0", "-0", "inf", "-inf", "nan")
	for _, text := range []string{
		"1", "5", "7", "9.5", "9.99", "9.995", "9.996", "10", "12.5", "95", "99.5", "99.96", "100", "123.456", "999", "999.4", "999.5", "999.96", "1000", "1234", "1500", "9500", "9999", "99999", "123456", "999499", "999500", "999999", "1e6", "1234567", "999999999.5", "1e14", "99e13", "1e15", "123e17",
		"0.1", "0.5", "0.95", "0.0999", "0.09996", "0.00012", "0.000999", "0.0009996", "1e-6", "1e-7", "99999e-10", "1e1999", "99e1998", "999e1997", "1e-2001", "99e-2002", "15e-2000", repeat("9", 1000) + "e-500", repeat("9", 1000) + "e1000", repeat("9", 1000) + "e-3000", repeat("6", 1000) + "e-900",
	} {
		list = append(list, of(text), of("-"+text))
	}
	r := source()
	for range 60 {
		list = append(list, someDec(r, 10, 9))
	}
	return list
}

// P18.4

// science answers what Science shows of a number that has a magnitude, and whether it is not refused.
func science(t *testing.T, x api.Dec, p api.Precision, by int) (api.Shown, bool) {
	t.Helper()
	s, err := notation.Science(x, p, by)
	if err != api.OK && err != api.ErrDecRange {
		t.Errorf("Science(%s, %v, %d): error %d", named(x), p, by, err)
	}
	return s, err == api.OK && x.Class == api.Finite && x.Digits != ""
}

// With all digits the number that is shown times the power of ten that the Exp says is the number.
func TestAllDigitsAreTheNumber(t *testing.T) {
	for _, x := range numbers() {
		for mode := range api.Modes {
			for _, least := range []int{0, 1} {
				for _, size := range []int{1, 3} {
					p := by(mode, ints(least, 0, everything()))
					s, err := notation.Science(x, p, size)
					back, other := width.Value(s)
					if err != api.OK || other != api.OK || back != x {
						t.Errorf("Science(%s, %v, %d): %s, errors %d, %d", named(x), p, size, named(back), err, other)
					}
					if x.Digits != "" && (len(s.Int) < 1 || len(s.Int) > size || s.Int[0] == '0') {
						t.Errorf("Science(%s, %v, %d): %s", named(x), p, size, short(told(s, err)))
					}
				}
			}
		}
	}
}

// By digits of a fraction, or by digits that count, there are 1 to by whole digits.
func TestWholeDigitsAreFew(t *testing.T) {
	held := 0
	for _, x := range numbers() {
		for mode := range api.Modes {
			for _, p := range []api.Precision{frac(0, 0), frac(0, 1), frac(1, 1), frac(2, 2), frac(0, 99), frac(99, 99), sig(1, 1), sig(1, 2), sig(2, 2), sig(3, 3), sig(2, 5), sig(1, 99), sig(99, 99)} {
				for _, size := range []int{1, 3} {
					for _, q := range []api.Precision{by(mode, p), hidden(by(mode, p))} {
						if s, ok := science(t, x, q, size); ok {
							held++
							if len(s.Int) < 1 || len(s.Int) > size {
								t.Errorf("Science(%s, %v, %d): %s", named(x), q, size, short(told(s, api.OK)))
							}
						}
					}
				}
			}
		}
	}
	if held < 50000 {
		t.Error("too few are not refused:", held)
	}
}

// The Exp is a multiple of by, and is that for the magnitude, or the next one; the sign stays; nothing is compact.
func TestExponentIsAMultiple(t *testing.T) {
	for _, x := range numbers() {
		for _, p := range precisions() {
			for _, size := range []int{1, 3} {
				s, ok := science(t, x, p, size)
				if !ok {
					continue
				}
				over := magnitudeByWords(x) - s.Exp
				if s.Exp%size != 0 || over < -size || over >= size || s.Neg != x.Neg || s.Compact {
					t.Errorf("Science(%s, %v, %d): %s", named(x), p, size, short(told(s, api.OK)))
				}
			}
		}
	}
}

// mirrored: the mode that does to -x what a mode does to x.
func mirrored(mode int) int {
	switch mode {
	case api.Ceiling:
		return api.Floor
	case api.Floor:
		return api.Ceiling
	}
	return mode
}

func opposite(x api.Dec) api.Dec {
	x.Neg = x.Class != api.NaN && !x.Neg
	return x
}

func unsigned(s api.Shown) api.Shown {
	s.Neg = false
	return s
}

// A number and its opposite are shown alike, but for the sign, in all ways.
func TestOppositesAreShownAlike(t *testing.T) {
	for i, x := range numbers() {
		for j, p := range precisions() {
			p = by((i+j)%api.Modes, p)
			q := by(mirrored(p.Mode), p)
			for _, size := range []int{1, 3} {
				s, err := notation.Science(x, p, size)
				o, other := notation.Science(opposite(x), q, size)
				expect(t, fmt.Sprintf("Science(%s, %v, %d)", named(x), p, size), told(unsigned(s), err), told(unsigned(o), other))
			}
			for _, rows := range tables() {
				s, row, err := notation.Short(x, p, rows)
				o, otherRow, other := notation.Short(opposite(x), q, rows)
				expect(t, fmt.Sprintf("Short(%s, %v, %v)", named(x), p, rows), toldShort(unsigned(s), row, err), toldShort(unsigned(o), otherRow, other))
			}
		}
	}
}

// A number times 10 to the power of by has the same digits, and an Exp by so many greater, by every kind of precision.
func TestDigitsStayWhereTheNumberIsScaled(t *testing.T) {
	r := source()
	for range 5000 {
		x, p, size, times := someDec(r, 7, 9), somePrecision(r, 5), oneOf(r, 1, 3), r.IntN(40)-20
		s, ok := science(t, x, p, size)
		x.Exp += size * times
		o, other := science(t, x, p, size)
		if s.Exp += size * times; ok != other || s != o {
			t.Errorf("Science of %s, %v, by %d: %s, not %s", named(x), p, size, told(o, api.OK), told(s, api.OK))
		}
	}
}

// P18.5

// With nothing in the table Short is width.Show, and 0, of all numbers and precisions, and where it is refused.
func TestShortByAnEmptyTable(t *testing.T) {
	empty := [][]api.Compact{nil, {}, {other(2, "0K"), other(15, "0K")}, {other(3, "0"), other(6, ""), other(9, "#K"), other(12, repeat("0", 14)+"K")}, {other(3, "0'"), other(3, "0K")}}
	for c := -1; c <= 6; c++ {
		if c != api.Other {
			empty = append(empty, []api.Compact{{Exp: 3, Category: c, Pattern: "0K"}, {Exp: 9, Category: c, Pattern: "0K"}})
		}
	}
	wide := append(append(precisions(), wrongPrecisions()...), ints(5, 0, frac(1, 2)), ints(0, 2, frac(0, 0)), ints(1, 3, everything()))
	for _, rows := range empty {
		for i, x := range append(numbers(), wrongDecs()...) {
			for j, p := range wide {
				if (i+j)%2 == 0 && p.Mode == api.HalfEven {
					p = by(j%api.Modes, p)
				}
				s, row, err := notation.Short(x, p, rows)
				plain, other := width.Show(x, p)
				expect(t, fmt.Sprintf("Short(%s, %v, %v)", named(x), p, rows), toldShort(s, row, err), toldShort(plain, 0, other))
			}
		}
	}
}

// P18.2: what follows from it.

// With all digits nothing is rounded: the number is what is shown, times the power of ten that the Exp says; and is as great as its row at least.
func TestAllDigitsAreTheNumberByRows(t *testing.T) {
	for _, x := range numbers() {
		for _, rows := range tables() {
			for _, p := range []api.Precision{everything(), ints(0, 0, everything()), ints(9, 0, everything())} {
				s, row, err := notation.Short(x, p, rows)
				back, other := width.Value(s)
				if err != api.OK || other != api.OK || back != x || row > 0 && magnitudeByWords(x) < row {
					t.Errorf("Short(%s, %v, %v): %s, row %d, errors %d, %d", named(x), p, rows, named(back), row, err, other)
				}
			}
		}
	}
}

// What is told of the row is in the table, with its power; without a row there is no power, and nothing is compact.
func TestRowIsInTheTable(t *testing.T) {
	r := source()
	for range 20000 {
		x, p, rows := someDec(r, 8, 12), withInts(r, somePrecision(r, 5)), someRows(r)
		s, row, err := notation.Short(x, p, rows)
		if err != api.OK {
			continue
		}
		noughts, ok := tableByWords(rows)[row]
		if ok != (row > 0) || s.Compact != ok || ok && s.Exp != row-noughts+1 || !ok && s.Exp != 0 {
			t.Errorf("Short(%s, %v, %v): %s", named(x), p, rows, toldShort(s, row, err))
		}
	}
}

// Rows of other categories, rows behind the first one of their Exp, and the order of rows of unlike Exps change nothing.
func TestOtherRowsChangeNothing(t *testing.T) {
	r := source()
	for range 10000 {
		x, p, rows := someDec(r, 8, 12), somePrecision(r, 5), someRows(r)
		var least []api.Compact
		for _, row := range rows {
			same := func(other api.Compact) bool { return other.Exp == row.Exp }
			if row.Category == api.Other && !slices.ContainsFunc(least, same) {
				least = append(least, row)
			}
		}
		r.Shuffle(len(least), func(i, j int) { least[i], least[j] = least[j], least[i] })
		s, row, err := notation.Short(x, p, rows)
		expect(t, fmt.Sprintf("Short(%s, %v, %v)", named(x), p, least), toldShort(notation.Short(x, p, least)), toldShort(s, row, err))
	}
}
