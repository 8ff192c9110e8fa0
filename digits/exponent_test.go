package digits_test

import (
	"math"
	"testing"

	"quipu/api"
)

// P16.2

func TestExponentExamples(t *testing.T) {
	expectExponent(t, 5, 2, true, latin(), "E|+|05 XYZ")
	expectExponent(t, -12, 1, false, latin(), "E|-|12 XYZ")
	expectExponent(t, 0, 0, false, latin(), "E|0 XZ")
}

func TestExponentSigns(t *testing.T) {
	for _, x := range []struct {
		exp             int
		without, within string
	}{{0, "E|0 XZ", "E|+|0 XYZ"}, {1, "E|1 XZ", "E|+|1 XYZ"}, {12, "E|12 XZ", "E|+|12 XYZ"}, {-1, "E|-|1 XYZ", "E|-|1 XYZ"}, {-10, "E|-|10 XYZ", "E|-|10 XYZ"}} {
		expectExponent(t, x.exp, 1, false, latin(), x.without)
		expectExponent(t, x.exp, 1, true, latin(), x.within)
	}
}

func TestExponentEndsOfAnInt(t *testing.T) {
	for _, least := range []int{math.MinInt, math.MinInt + 1, math.MinInt + 19, -1, 0, 1, 18, 19} {
		expectExponent(t, math.MinInt, least, true, latin(), "E|-|9223372036854775808 XYZ")
		expectExponent(t, math.MinInt+1, least, false, latin(), "E|-|9223372036854775807 XYZ")
		expectExponent(t, math.MaxInt, least, false, latin(), "E|9223372036854775807 XZ")
		expectExponent(t, math.MaxInt, least, true, latin(), "E|+|9223372036854775807 XYZ")
	}
	expectExponent(t, math.MinInt, 20, true, latin(), "E|-|09223372036854775808 XYZ")
}

// Of noughts there are 99 at most, whatever the length is then.
func TestExponentLeast(t *testing.T) {
	for _, least := range []int{math.MinInt, math.MinInt + 1, math.MinInt + 2, -100, -1, 0, 1} {
		expectExponent(t, 7, least, false, latin(), "E|7 XZ")
		expectExponent(t, 0, least, false, latin(), "E|0 XZ")
		expectExponent(t, 700, least, false, latin(), "E|700 XZ")
	}
	for least := 2; least <= 120; least++ {
		one, two, three := repeat("0", min(99, least-1)), repeat("0", min(99, least-2)), repeat("0", min(99, max(0, least-3)))
		expectExponent(t, 7, least, false, latin(), "E|"+one+"7 XZ")
		expectExponent(t, 0, least, true, latin(), "E|+|"+one+"0 XYZ")
		expectExponent(t, -42, least, true, latin(), "E|-|"+two+"42 XYZ")
		expectExponent(t, 512, least, false, latin(), "E|"+three+"512 XZ")
	}
	for _, least := range []int{4096, 1 << 32, math.MaxInt - 1, math.MaxInt} {
		expectExponent(t, 7, least, false, latin(), "E|"+repeat("0", 99)+"7 XZ")
		expectExponent(t, math.MinInt, least, false, latin(), "E|-|"+repeat("0", 99)+"9223372036854775808 XYZ")
	}
}

func TestExponentSymbols(t *testing.T) {
	expectExponent(t, 120, 4, true, arabic(), "أس|\u061c+|٠١٢٠ XYZ")
	expectExponent(t, -3, 2, true, arabic(), "أس|\u061c-|٠٣ XYZ")
	s := latin()
	s.Exponent = ""
	expectExponent(t, -3, 2, true, s, "-|03 YZ")
	s.Minus = ""
	expectExponent(t, -3, 2, true, s, "03 Z")
	expectExponent(t, 3, 2, true, s, "+|03 YZ")
	s.Plus, s.Minus = "", "-"
	expectExponent(t, 3, 2, true, s, "03 Z")
	s.Digits[0], s.Digits[1] = "", "<one>"
	expectExponent(t, -101, 5, true, s, "-|<one><one> YZ")
	expectExponent(t, 0, 5, true, s, " ")
	expectExponent(t, -5, 5, true, api.Symbols{}, " ")
	s = latin()
	s.Exponent, s.Plus = "×10^", "\xff"
	expectExponent(t, 6, 1, true, s, "×10^|\xff|6 XYZ")
}

func TestExponentByWords(t *testing.T) {
	for _, exp := range edges() {
		for _, least := range edges() {
			for _, plus := range []bool{false, true} {
				expectExponentByWords(t, exp, least, plus, latin())
			}
		}
	}
	for exp := -2100; exp <= 2100; exp++ {
		expectExponentByWords(t, exp, exp%5, exp%2 == 0, arabic())
	}
	r := source()
	for range 30000 {
		exp := int(r.Uint64()) >> r.IntN(64)
		expectExponentByWords(t, exp, r.IntN(130)-5, r.IntN(2) == 0, someSymbols(r))
	}
}
