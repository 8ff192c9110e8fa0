package sign_test

import (
	"math"
	"testing"

	"quipu/api"
	"quipu/sign"
)

// P19.1

func TestErrorHasItsNumber(t *testing.T) {
	if api.ErrSignForm != 190 {
		t.Error("another number:", api.ErrSignForm)
	}
}

func TestDisplaysHaveTheirNumbers(t *testing.T) {
	for want, display := range []int{api.SignAuto, api.SignAlways, api.SignNever, api.SignExceptZero, api.SignNegative} {
		if display != want {
			t.Errorf("the display %d has the number %d", want, display)
		}
	}
}

func TestOfExamples(t *testing.T) {
	x, y, z := api.Shown{Neg: true, Int: "0"}, api.Shown{Int: "5"}, api.Shown{Class: api.NaN}
	expectOf(t, x, api.SignAuto, -1, api.OK)
	expectOf(t, x, api.SignExceptZero, 0, api.OK)
	expectOf(t, x, api.SignNegative, 0, api.OK)
	expectOf(t, x, api.SignAlways, -1, api.OK)
	expectOf(t, y, api.SignAlways, 1, api.OK)
	expectOf(t, z, api.SignAlways, 0, api.OK)
	expectOf(t, y, 5, 0, api.ErrSignForm)
}

// The answers stand in the order of the displays: auto, always, never, all but zero, below zero alone.

func TestOfNumbers(t *testing.T) {
	for _, x := range []api.Shown{{Int: "5"}, {Int: "1234567"}, {Frac: "5"}, {Int: "0", Frac: "5"}, {Int: "5", Frac: "0"}, {Int: "00", Frac: "0001"}, {Int: "10", Frac: "00"}, {Int: "01"}, {Frac: "10"}} {
		expectOfAll(t, x, 0, 1, 0, 1, 0)
		x.Neg = true
		expectOfAll(t, x, -1, -1, 0, -1, -1)
	}
}

// Zero is what shows noughts alone, or no digit at all: on one side, on both, so many of them as there may be.
func TestOfZero(t *testing.T) {
	for _, x := range []api.Shown{{}, {Int: "0"}, {Frac: "0"}, {Int: "0", Frac: "0"}, {Int: "000"}, {Frac: "000"}, {Int: "00", Frac: "000"}, {Int: repeat("0", 4096), Frac: repeat("0", 4096)}} {
		expectOfAll(t, x, 0, 1, 0, 0, 0)
		x.Neg = true
		expectOfAll(t, x, -1, -1, 0, 0, 0)
	}
}

// One digit that is no nought, wherever it stands, makes it a number beside zero.
func TestOfOneDigitAmongNoughts(t *testing.T) {
	for size := range 6 {
		for at := range size {
			for digit := '1'; digit <= '9'; digit++ {
				digits := repeat("0", at) + string(digit) + repeat("0", size-1-at)
				for _, x := range []api.Shown{{Int: digits}, {Frac: digits}, {Int: "0", Frac: digits}, {Int: digits, Frac: "00"}, {Int: digits, Frac: digits}} {
					expectOfAll(t, x, 0, 1, 0, 1, 0)
					x.Neg = true
					expectOfAll(t, x, -1, -1, 0, -1, -1)
				}
			}
		}
	}
	expectOfAll(t, api.Shown{Neg: true, Int: repeat("0", 4095) + "1"}, -1, -1, 0, -1, -1)
	expectOfAll(t, api.Shown{Neg: true, Frac: repeat("0", 4095) + "1"}, -1, -1, 0, -1, -1)
}

// An exponent is no digit: zero stays zero with any, short or not.
func TestOfWithExponents(t *testing.T) {
	for _, exp := range edges() {
		for _, compact := range []bool{false, true} {
			expectOfAll(t, api.Shown{Int: "0", Exp: exp, Compact: compact}, 0, 1, 0, 0, 0)
			expectOfAll(t, api.Shown{Neg: true, Int: "0", Frac: "00", Exp: exp, Compact: compact}, -1, -1, 0, 0, 0)
			expectOfAll(t, api.Shown{Int: "1", Frac: "5", Exp: exp, Compact: compact}, 0, 1, 0, 1, 0)
			expectOfAll(t, api.Shown{Neg: true, Frac: "5", Exp: exp, Compact: compact}, -1, -1, 0, -1, -1)
		}
	}
}

// An infinity is no zero, though it has no digits.
func TestOfInfinities(t *testing.T) {
	for _, digits := range []string{"", "0", "5"} {
		expectOfAll(t, api.Shown{Class: api.Inf, Int: digits}, 0, 1, 0, 1, 0)
		expectOfAll(t, api.Shown{Class: api.Inf, Neg: true, Int: digits, Frac: digits}, -1, -1, 0, -1, -1)
	}
}

// No number has no sign, whatever else it says.
func TestOfNaN(t *testing.T) {
	for _, digits := range []string{"", "0", "5"} {
		for _, neg := range []bool{false, true} {
			expectOfAll(t, api.Shown{Class: api.NaN, Neg: neg, Int: digits}, 0, 0, 0, 0, 0)
			expectOfAll(t, api.Shown{Class: api.NaN, Neg: neg, Frac: digits, Exp: 3, Compact: true}, 0, 0, 0, 0, 0)
		}
	}
}

// A Class that is none is neither finite nor NaN: never zero, and it has a sign.
func TestOfClassesThatAreNone(t *testing.T) {
	for _, class := range []int{math.MinInt, -1, 3, 256, 258, 1 << 32, 1<<32 + 2, math.MaxInt} {
		expectOfAll(t, api.Shown{Class: class, Int: "0"}, 0, 1, 0, 1, 0)
		expectOfAll(t, api.Shown{Class: class, Neg: true}, -1, -1, 0, -1, -1)
	}
}

// A Shown is not checked: bytes that are no digits are no noughts.
func TestOfOtherBytes(t *testing.T) {
	for _, s := range []string{"a", " ", "\x00", "\xff", "\u0660", "0 ", "O", "-0", "0.0", "0\xb0"} {
		expectOfAll(t, api.Shown{Int: s}, 0, 1, 0, 1, 0)
		expectOfAll(t, api.Shown{Neg: true, Int: "0", Frac: s}, -1, -1, 0, -1, -1)
	}
}

// By a display that is none there is no sign, of no number either.
func TestOfDisplaysThatAreNone(t *testing.T) {
	for _, display := range edges() {
		for _, x := range []api.Shown{{}, {Neg: true}, {Int: "5"}, {Neg: true, Int: "5"}, {Class: api.Inf}, {Class: api.NaN}, {Class: api.NaN, Neg: true}, {Class: 7}} {
			if display < 0 || display > 4 {
				expectOf(t, x, display, 0, api.ErrSignForm)
			}
			expectOfWords(t, x, display)
		}
	}
}

func TestOfSome(t *testing.T) {
	r := source()
	for range 50000 {
		expectOfWords(t, someShown(r), oneOf(r, 0, 1, 2, 3, 4, oneOf(r, edges()...)))
	}
}

// R5: the same again, whatever came between.
func TestOfKeepsNothing(t *testing.T) {
	r := source()
	for range 2000 {
		x, display := someShown(r), r.IntN(5)
		first, _ := sign.Of(x, display)
		sign.Of(someShown(r), r.IntN(7)-1)
		if again, err := sign.Of(x, display); again != first || err != api.OK {
			t.Fatalf("Of(%s, %d): %d, and again: %d, %d", short(x), display, first, again, err)
		}
	}
}
