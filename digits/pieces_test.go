package digits_test

import (
	"math"
	"testing"

	"quipu/api"
	"quipu/width"
)

// P16.1

func TestPiecesExamples(t *testing.T) {
	for _, x := range []struct {
		x    api.Shown
		g    sizing
		want string
	}{
		{plain("1234567", "89"), sizes(3, 0, 1), "1|,|234|,|567|.|89 IGIGIDF"},
		{plain("1234567", ""), sizes(3, 2, 1), "12|,|34|,|567 IGIGI"},
		{plain("1234", ""), sizes(3, 0, 2), "1234 I"},
		{plain("12345", ""), sizes(3, 0, 2), "12|,|345 IGI"},
		{plain("1234", ""), sizes(0, 0, 1), "1234 I"},
		{plain("123", ""), sizes(3, 0, 1), "123 I"},
		{plain("", "5"), sizes(3, 0, 1), ".|5 DF"},
		{plain("5", ""), sizing{3, 0, 1, true}, "5|. ID"},
		{plain("007", ""), sizes(3, 0, 1), "007 I"},
		{api.Shown{Class: api.Inf}, sizes(3, 0, 1), "∞ I"},
		{api.Shown{}, sizes(3, 0, 1), " "},
	} {
		expectRow(t, x.x, latin(), x.g, x.want)
	}
}

// Of what may not be there is nothing, also where the point is always there.
func TestPiecesOfWhatMayNotBe(t *testing.T) {
	full := repeat("7", 4096)
	l := []api.Shown{
		{}, {Neg: true}, {Exp: 3, Compact: true}, {Class: -1}, {Class: 3}, {Class: -1, Int: "1"}, {Class: 3, Int: "1"}, {Class: math.MinInt, Int: "1"}, {Class: math.MaxInt, Frac: "1"},
		{Class: api.Inf, Int: "1"}, {Class: api.Inf, Frac: "1"}, {Class: api.NaN, Int: "0"}, {Class: api.NaN, Frac: "0"}, {Class: api.NaN, Neg: true}, {Class: api.Inf, Neg: true, Int: "x"},
		{Int: "1", Exp: 2002}, {Int: "1", Exp: -2002}, {Frac: "1", Exp: math.MaxInt}, {Frac: "1", Exp: math.MinInt}, {Class: api.Inf, Exp: 2002}, {Class: api.NaN, Exp: -2002}, {Int: "1", Exp: 2002, Compact: true},
		{Int: full + "7"}, {Frac: full + "7"}, {Int: full + "7", Frac: "1"}, {Int: "1", Frac: full + "7"}, {Int: repeat("0", 4097)},
	}
	for _, wrong := range []string{"-1", "+1", " 1", "1 ", "1\n", "1.5", ",", "a", "1a", "a1", "٣", "５", "\xff", "1\xff", "\x00", "/", ":", "∞", "1e3"} {
		l = append(l, api.Shown{Int: wrong}, api.Shown{Frac: wrong}, api.Shown{Int: wrong, Frac: "5"}, api.Shown{Int: "1234", Frac: wrong})
	}
	for _, x := range l {
		for _, always := range []bool{false, true} {
			expectPieces(t, x, latin(), sizing{3, 0, 1, always})
			expectPieces(t, x, arabic(), sizing{0, 0, 0, always})
		}
	}
}

func TestPiecesEachByte(t *testing.T) {
	for b := range 256 {
		one := string([]byte{byte(b)})
		want := []string{" ", " ", " "}
		if b >= '0' && b <= '9' {
			want = []string{one + "|. ID", ".|" + one + " DF", "1|,|" + one + "34|.|" + one + one + " IGIDF"}
		}
		expectRow(t, plain(one, ""), latin(), sizing{3, 2, 1, true}, want[0])
		expectRow(t, plain("", one), latin(), sizing{3, 2, 1, true}, want[1])
		expectRow(t, plain("1"+one+"34", one+one), latin(), sizing{3, 2, 1, true}, want[2])
	}
}

// The sign, the exponent and whether it is compact change nothing.
func TestPiecesOfTheLeastAndTheMost(t *testing.T) {
	full := repeat("1234567890", 500)[:4096]
	for _, exp := range []int{-2001, -2000, -1, 0, 1, 2000, 2001} {
		for _, neg := range []bool{false, true} {
			for _, compact := range []bool{false, true} {
				expectRow(t, api.Shown{Neg: neg, Int: "1234", Frac: "50", Exp: exp, Compact: compact}, latin(), sizes(3, 0, 1), "1|,|234|.|50 IGIDF")
				expectRow(t, api.Shown{Neg: neg, Int: full, Frac: full, Exp: exp, Compact: compact}, latin(), sizes(0, 0, 1), full+"|.|"+full+" IDF")
			}
		}
	}
	expectRow(t, plain(full, ""), latin(), sizes(4095, 0, 1), full[:1]+"|,|"+full[1:]+" IGI")
}

// A number that no Dec has room for is shown all the same.
func TestPiecesOfWhatIsNoDec(t *testing.T) {
	x := api.Shown{Int: "1" + repeat("0", 1500) + "1", Frac: "5", Exp: 2001}
	if _, err := width.Value(x); err != api.ErrDecRange {
		t.Error("a Dec has room:", err)
	}
	expectRow(t, x, latin(), sizes(1500, 0, 1), "10|,|"+repeat("0", 1499)+"1|.|5 IGIDF")
}

func TestPiecesOfNoNumber(t *testing.T) {
	for _, g := range []sizing{sizes(3, 0, 1), {3, 2, 1, true}, {0, 0, 0, true}, {1, 1, 1, false}, {math.MinInt, math.MinInt, math.MinInt, true}, {math.MaxInt, math.MaxInt, math.MaxInt, true}} {
		for _, exp := range []int{-2001, 0, 2001} {
			expectRow(t, api.Shown{Class: api.Inf, Exp: exp}, latin(), g, "∞ I")
			expectRow(t, api.Shown{Class: api.Inf, Neg: true, Exp: exp, Compact: true}, latin(), g, "∞ I")
			expectRow(t, api.Shown{Class: api.NaN, Exp: exp}, latin(), g, "NaN I")
			expectRow(t, api.Shown{Class: api.NaN, Neg: true, Exp: exp}, latin(), g, " ")
			expectRow(t, api.Shown{Class: api.Inf}, arabic(), g, "لا نهاية I")
			expectRow(t, api.Shown{Class: api.NaN, Compact: true}, arabic(), g, "ليس رقم I")
			expectRow(t, api.Shown{Class: api.Inf}, api.Symbols{NaN: "NaN", Decimal: "."}, g, " ")
			expectRow(t, api.Shown{Class: api.NaN}, api.Symbols{Infinity: "∞", Decimal: "."}, g, " ")
		}
	}
}

func TestPiecesPoint(t *testing.T) {
	for _, x := range []struct {
		x             api.Shown
		want, andMust string
	}{
		{plain("5", ""), "5 I", "5|. ID"}, {plain("0", ""), "0 I", "0|. ID"}, {plain("", "5"), ".|5 DF", ".|5 DF"}, {plain("", "0"), ".|0 DF", ".|0 DF"}, {plain("12", "50"), "12|.|50 IDF", "12|.|50 IDF"}, {plain("0", "00"), "0|.|00 IDF", "0|.|00 IDF"}, {plain("1234", ""), "1|,|234 IGI", "1|,|234|. IGID"}, {plain("", "1234567"), ".|1234567 DF", ".|1234567 DF"},
	} {
		expectRow(t, x.x, latin(), sizes(3, 0, 1), x.want)
		expectRow(t, x.x, latin(), sizing{3, 0, 1, true}, x.andMust)
	}
}

// P16.1: symbols of any length, and of any bytes.
func TestPiecesSymbols(t *testing.T) {
	expectRow(t, plain("1234", "05"), arabic(), sizes(3, 0, 1), "١|٬|٢٣٤|٫|٠٥ IGIDF")
	s := latin()
	s.Group, s.Decimal = "", "<>"
	expectRow(t, plain("1234567", "8"), s, sizes(3, 0, 1), "1|234|567|<>|8 IIIDF")
	s.Group, s.Decimal = "\u00a0\u0301", ""
	expectRow(t, plain("1234567", "8"), s, sizing{3, 0, 1, true}, "1|\u00a0\u0301|234|\u00a0\u0301|567|8 IGIGIF")
	s.Group = "\xff\x00"
	expectRow(t, plain("1234", ""), s, sizing{3, 0, 1, true}, "1|\xff\x00|234 IGI")
	expectRow(t, plain("1234", "5"), api.Symbols{}, sizes(1, 0, 1), " ")
	expectRow(t, plain("1234", "5"), api.Symbols{Group: ","}, sizes(1, 0, 1), ",|,|, GGG")
	expectRow(t, plain("12", "5"), api.Symbols{Decimal: "."}, sizes(1, 0, 1), ". D")
}

// A digit without a text leaves the others where they are, and separators, too.
func TestPiecesOfDigitsEmptyInPart(t *testing.T) {
	s := latin()
	s.Digits[0], s.Digits[7] = "", "seven"
	expectRow(t, plain("1000", "070"), s, sizes(3, 0, 1), "1|,|.|seven IGDF")
	expectRow(t, plain("1700000", "00"), s, sizes(3, 0, 1), "1|,|seven|,|. IGIGD")
	expectRow(t, plain("0000", ""), s, sizes(3, 0, 1), ", G")
	expectRow(t, plain("0", ""), s, sizes(3, 0, 1), " ")
	expectRow(t, plain("0", "0"), s, sizes(3, 0, 1), ". D")
	expectRow(t, plain("7", "7"), s, sizes(3, 0, 1), "seven|.|seven IDF")
}

// What is no number's, and what an exponent has, is not asked.
func TestPiecesOtherSymbolsChangeNothing(t *testing.T) {
	s := latin()
	s.Minus, s.Plus, s.Percent, s.Permille, s.Exponent, s.Infinity, s.NaN, s.Approximately, s.Range = "", "", "", "", "", "", "", "", ""
	expectRow(t, api.Shown{Neg: true, Int: "1234567", Frac: "89", Exp: 5}, s, sizes(3, 0, 1), "1|,|234|,|567|.|89 IGIGIDF")
}

func TestPiecesByWords(t *testing.T) {
	r := source()
	for i := range 60000 {
		most := 12
		if i%100 == 0 {
			most = 4096
		}
		expectByWords(t, someShown(r, most), someSymbols(r), someSizing(r))
	}
}
