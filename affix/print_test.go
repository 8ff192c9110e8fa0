package affix_test

import (
	"testing"

	"quipu/affix"
	"quipu/api"
)

// P13.3

func TestPrintExamples(t *testing.T) {
	expectPrint(t, "a'-'b", text("a-b"))
	expectPrint(t, "-x", minus, text("x"))
	expectPrint(t, "''''", text("''"))
	expectPrint(t, "'0'''k", text("0'k"))
	expectPrintError(t, api.ErrAffixToken, text("a"), text("b"))
	expectPrintError(t, api.ErrAffixToken, coin(4))
}

func TestPrintNothing(t *testing.T) {
	expectPrint(t, "")
	if s, err := affix.Print([]api.Token{}); s != "" || err != api.OK {
		t.Errorf("Print of an empty list: %q, %d", s, err)
	}
}

func TestPrintSigns(t *testing.T) {
	for sign, token := range signed() {
		expectPrint(t, sign, token)
		expectPrint(t, sign+"a", token, text("a"))
		expectPrint(t, "a"+sign, text("a"), token)
		for other, second := range signed() {
			if other != sign {
				expectPrint(t, sign+other, token, second)
			}
		}
	}
	expectPrint(t, "\u00a4", coin(1))
	expectPrint(t, "\u00a4\u00a4", coin(2))
	expectPrint(t, "\u00a4\u00a4\u00a4", coin(3))
	expectPrint(t, "\u00a4\u00a4\u00a4-\u00a4\u00a4a\u00a4", coin(3), minus, coin(2), text("a"), coin(1))
	expectPrint(t, "--++", minus, minus, plus, plus)
}

func TestPrintTextsWithoutQuotes(t *testing.T) {
	for _, s := range []string{"a", " ", "km", "€", "\u00a0", "(", ")", "$", "E", "\ufffd", "\x00", "\x7f", "\u2212", "\U0010ffff", "\"", "`", "\u2019", "a b/c:d!e", "\u00a3\u2031"} {
		expectPrint(t, s, text(s))
		expectPrint(t, "-"+s+"-", minus, text(s), minus)
	}
}

// bound: each rune that needs quotes, but the apostrophe.
func bound() []string {
	list := letters()
	for sign := range signed() {
		list = append(list, sign)
	}
	return list
}

func TestPrintRows(t *testing.T) {
	for _, x := range bound() {
		expectPrint(t, "'"+x+"'", text(x))
		expectPrint(t, "'"+x+x+"'", text(x+x))
		expectPrint(t, "'"+x+"'a", text(x+"a"))
		expectPrint(t, "a'"+x+"'", text("a"+x))
		expectPrint(t, "a'"+x+"'b", text("a"+x+"b"))
		expectPrint(t, "a'"+x+"'b'"+x+"'c", text("a"+x+"b"+x+"c"))
		expectPrint(t, "'"+x+"'a'"+x+"'", text(x+"a"+x))
		for sign, token := range signed() {
			expectPrint(t, "'"+x+"'"+sign, text(x), token)
			expectPrint(t, sign+"'"+x+"'", token, text(x))
			expectPrint(t, "'"+x+"'"+sign+"'"+x+"'", text(x), token, text(x))
		}
		for _, y := range bound() {
			expectPrint(t, "'"+x+y+"'", text(x+y))
			expectPrint(t, "€'"+x+y+"'€", text("€"+x+y+"€"))
		}
	}
	all := "-+%\u2030\u00a40123456789#@,.;*"
	expectPrint(t, "'"+all+"'", text(all))
}

func TestPrintApostrophesAlone(t *testing.T) {
	for n := 1; n <= 5; n++ {
		row, twice := repeat("'", n), repeat("''", n)
		expectPrint(t, twice, text(row))
		expectPrint(t, twice+"a", text(row+"a"))
		expectPrint(t, "a"+twice, text("a"+row))
		expectPrint(t, "a"+twice+"b", text("a"+row+"b"))
		expectPrint(t, twice+"a"+twice, text(row+"a"+row))
		expectPrint(t, "-"+twice+"-", minus, text(row), minus)
		expectPrint(t, "\u00a4"+twice+"\u00a4", coin(1), text(row), coin(1))
	}
	expectPrint(t, repeat("'", 128), text(repeat("'", 64)))
}

// Apostrophes in a row with others: at its beginning, within, at its end.
func TestPrintApostrophesAmongOthers(t *testing.T) {
	for _, x := range bound() {
		for n := 1; n <= 3; n++ {
			row, twice := repeat("'", n), repeat("''", n)
			expectPrint(t, "'"+twice+x+"'", text(row+x))
			expectPrint(t, "'"+x+twice+"'", text(x+row))
			expectPrint(t, "'"+x+twice+x+"'", text(x+row+x))
			expectPrint(t, "'"+twice+x+twice+"'", text(row+x+row))
			expectPrint(t, "a'"+twice+x+"'b", text("a"+row+x+"b"))
			expectPrint(t, "a'"+x+twice+"'b", text("a"+x+row+"b"))
			expectPrint(t, "'"+x+"'a"+twice+"b'"+x+"'", text(x+"a"+row+"b"+x))
			expectPrint(t, "-'"+twice+x+"'-", minus, text(row+x), minus)
			expectPrint(t, "-'"+x+twice+"'-", minus, text(x+row), minus)
		}
	}
	expectPrint(t, "'''-'''", text("'-'"))
}

func TestPrintTokensThatMayNotBe(t *testing.T) {
	for _, x := range tokens(coin(0), coin(4), coin(-1), text(""), text("\xff"), text("a\xc3"), api.Token{Kind: 6}, api.Token{Kind: -1}, api.Token{Kind: api.TokMinus, Many: 1}, api.Token{Kind: api.TokPlus, Text: "+"}, api.Token{Text: "a", Many: 1}) {
		expectPrintError(t, api.ErrAffixToken, x)
		expectPrintError(t, api.ErrAffixToken, minus, x)
		expectPrintError(t, api.ErrAffixToken, x, minus)
		expectPrintError(t, api.ErrAffixToken, join(times(100, minus), tokens(x))...)
	}
	expectPrintError(t, api.ErrAffixToken, coin(1), coin(1))
	expectPrintError(t, api.ErrAffixLong, times(65, minus)...)
	expectPrintError(t, api.ErrAffixLong, text(repeat("a", 65)))
	expectPrintError(t, api.ErrAffixLong, text(repeat("a", 64)), minus, text("b"))
	expectPrint(t, repeat("-", 64), times(64, minus)...)
	expectPrint(t, "-"+repeat("a", 64), minus, text(repeat("a", 64)))
	expectPrint(t, "'"+repeat("0", 64)+"'", text(repeat("0", 64)))
	expectPrint(t, repeat("'0'a", 32), text(repeat("0a", 32)))
}
