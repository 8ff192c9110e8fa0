package affix_test

import (
	"slices"
	"testing"

	"quipu/affix"
	"quipu/api"
)

// P13.2

func letters() []string {
	return []string{"0", "1", "2", "3", "4", "5", "6", "7", "8", "9", "#", "@", ",", ".", ";", "*"}
}

// signed: the signs and their tokens.
func signed() map[string]api.Token {
	return map[string]api.Token{"-": minus, "+": plus, "%": percent, "\u2030": permille, "\u00a4": coin(1)}
}

func TestParseExamples(t *testing.T) {
	expectParse(t, "-", minus)
	expectParse(t, "a-b", text("a"), minus, text("b"))
	expectParse(t, "'-'", text("-"))
	expectParse(t, "''", text("'"))
	expectParse(t, "a''b", text("a'b"))
	expectParse(t, "'a''-'", text("a'-"))
	expectParseError(t, "'", api.ErrAffixQuote)
	expectParseError(t, "'a", api.ErrAffixQuote)
	expectParseError(t, "a0", api.ErrAffixToken)
	expectParse(t, "'0'", text("0"))
	expectParseError(t, "*", api.ErrAffixToken)
	expectParse(t, "\u00a4\u00a4\u00a4", coin(3))
	expectParseError(t, "\u00a4\u00a4\u00a4\u00a4", api.ErrAffixToken)
}

func TestParseNothing(t *testing.T) { expectParse(t, "") }

func TestParseSigns(t *testing.T) {
	for sign, token := range signed() {
		expectParse(t, sign, token)
		expectParse(t, "a"+sign, text("a"), token)
		expectParse(t, sign+"a", token, text("a"))
		expectParse(t, "x"+sign+"y", text("x"), token, text("y"))
		expectParse(t, "'x'"+sign+"'y'", text("x"), token, text("y"))
		expectParse(t, "''"+sign+"''", text("'"), token, text("'"))
		expectParse(t, "'"+sign+"'", text(sign))
		expectParse(t, "'"+sign+sign+sign+sign+"'", text(repeat(sign, 4)))
		expectParse(t, sign+"'"+sign+"'"+sign, token, text(sign), token)
		if token.Kind != api.TokCoin {
			expectParse(t, repeat(sign, 5), times(5, token)...)
		}
		for other, second := range signed() {
			if other != sign {
				expectParse(t, sign+other, token, second)
			}
		}
	}
	expectParse(t, "-+%\u2030\u00a4", minus, plus, percent, permille, coin(1))
}

// Runes that look like signs, and share bytes with them, are text.
func TestParseRunesThatAreNoSigns(t *testing.T) {
	for _, s := range []string{"\u2212", "\u2010", "\u2031", "\u202f", "\u2032", "\u2019", "\u2018", "\uff05", "\uff0d", "\u00a3", "\u00a5", "\u00e4", "$", "\"", "`", "(", ")", "/", ":", "!", "E", "e", "&", "\u0660", "\uff10", "\x00", "\x7f", "\u0080", "\ufffd", "\U0010ffff", " ", "\u00a0", "\t", "\n"} {
		expectParse(t, s, text(s))
		expectParse(t, "-"+s+"-", minus, text(s), minus)
		expectParse(t, "'"+s+"'", text(s))
		expectParse(t, s+"''"+s, text(s+"'"+s))
	}
}

func TestParseEachRune(t *testing.T) {
	for r := rune(0); r <= 0x10ffff; r++ {
		if r >= 0xd800 && r <= 0xdfff || r > 0x30000 && r%977 != 0 {
			continue
		}
		s := string(r)
		token, ok := signed()[s]
		switch {
		case ok:
			expectParse(t, s, token)
		case slices.Contains(letters(), s):
			expectParseError(t, s, api.ErrAffixToken)
		case s == "'":
			expectParseError(t, s, api.ErrAffixQuote)
		default:
			if l, err := affix.Parse(s); err != api.OK || len(l) != 1 || l[0] != text(s) {
				t.Errorf("Parse(%q): %s, %d", s, short(l), err)
			}
		}
	}
}

func TestParseLetters(t *testing.T) {
	for _, s := range letters() {
		expectParseError(t, s, api.ErrAffixToken)
		expectParseError(t, "a"+s, api.ErrAffixToken)
		expectParseError(t, s+"a", api.ErrAffixToken)
		expectParseError(t, "-"+s, api.ErrAffixToken)
		expectParseError(t, "''"+s, api.ErrAffixToken)
		expectParseError(t, "'a'"+s, api.ErrAffixToken)
		expectParseError(t, "'a'''"+s, api.ErrAffixToken)
		expectParseError(t, "''''"+s, api.ErrAffixToken)
		expectParse(t, "'"+s+"'", text(s))
		expectParse(t, "'a"+s+"b'", text("a"+s+"b"))
		expectParse(t, "a'"+s+"'b", text("a"+s+"b"))
		expectParse(t, "'''"+s+"'", text("'"+s))
		expectParse(t, "'"+s+"'''", text(s+"'"))
		expectParse(t, "'"+s+"''"+s+"'", text(s+"'"+s))
		expectParse(t, "-'"+s+"'-", minus, text(s), minus)
		expectParseError(t, "'"+s+"'"+s, api.ErrAffixToken)
		expectParseError(t, "'"+s, api.ErrAffixQuote)
	}
}

func TestParseBytesThatBeginNoRune(t *testing.T) {
	for _, bad := range []string{"\x80", "\xbf", "\xc0", "\xc1", "\xff", "\xfe", "\xf5", "\xc2", "\xe2", "\xe2\x80", "\xf0\x9f\x98", "\xc0\x80", "\xe0\x80\x80", "\xed\xa0\x80", "\xf4\x90\x80\x80", "\xc2'", "\xe2\x80'", "\xa4", "\xb0"} {
		expectParseError(t, bad, api.ErrAffixToken)
		expectParseError(t, "a"+bad, api.ErrAffixToken)
		expectParseError(t, bad+"a", api.ErrAffixToken)
		expectParseError(t, "'"+bad, api.ErrAffixToken)
		expectParseError(t, "'"+bad+"'", api.ErrAffixToken)
		expectParseError(t, "'a"+bad+"'", api.ErrAffixToken)
		expectParseError(t, "'a'"+bad, api.ErrAffixToken)
		expectParseError(t, "'a''"+bad, api.ErrAffixToken)
		expectParseError(t, "''"+bad, api.ErrAffixToken)
		expectParseError(t, "-"+bad, api.ErrAffixToken)
		expectParseError(t, "\u00a4\u00a4\u00a4"+bad, api.ErrAffixToken)
	}
	// The rune U+FFFD is one.
	expectParse(t, "\ufffd'\ufffd'", text("\ufffd\ufffd"))
}

func TestParseCoins(t *testing.T) {
	const sign = "\u00a4"
	for n := 1; n <= 5; n++ {
		row := repeat(sign, n)
		if n > 3 {
			for _, s := range []string{row, "a" + row, row + "a", "-" + row, row + "-", "'a'" + row, "''" + row, sign + "-" + row, row + "'", "''" + row + "''"} {
				expectParseError(t, s, api.ErrAffixToken)
			}
			expectParse(t, "'"+row+"'", text(row))
			continue
		}
		expectParse(t, row, coin(n))
		expectParse(t, "a"+row+"b", text("a"), coin(n), text("b"))
		for m := 1; m <= 3; m++ {
			other := repeat(sign, m)
			expectParse(t, row+"a"+other, coin(n), text("a"), coin(m))
			expectParse(t, row+"''"+other, coin(n), text("'"), coin(m))
			expectParse(t, row+"'a'"+other, coin(n), text("a"), coin(m))
			expectParse(t, row+"'\u00a4'"+other, coin(n), text(sign), coin(m))
			expectParse(t, row+"'\u00a4\u00a4\u00a4'"+other, coin(n), text(sign+sign+sign), coin(m))
			expectParse(t, row+"''''"+other, coin(n), text("''"), coin(m))
			expectParse(t, row+"-"+other, coin(n), minus, coin(m))
			expectParse(t, row+"+%"+other+"\u2030", coin(n), plus, percent, coin(m), permille)
			expectParse(t, row+"\u00a3"+other, coin(n), text("\u00a3"), coin(m))
		}
		expectParseError(t, row+"'"+row, api.ErrAffixQuote)
	}
}

func TestParseApostrophesAlone(t *testing.T) {
	for n := range 129 {
		switch {
		case n == 0:
			expectParse(t, "")
		case n%2 == 1:
			expectParseError(t, repeat("'", n), api.ErrAffixQuote)
		default:
			expectParse(t, repeat("'", n), text(repeat("'", n/2)))
		}
	}
	expectParseError(t, repeat("'", 130), api.ErrAffixLong)
	expectParseError(t, repeat("'", 131), api.ErrAffixQuote)
}

func TestParseQuotes(t *testing.T) {
	// They are one text with what stands beside them, and with one another.
	expectParse(t, "'a'", text("a"))
	expectParse(t, "'a'b'c'", text("abc"))
	expectParse(t, "x'a'y", text("xay"))
	expectParse(t, "'a''b'", text("a'b"))
	expectParse(t, "'a'-'b'", text("a"), minus, text("b"))
	expectParse(t, "'-'+'%'", text("-"), plus, text("%"))
	// Nothing stands between two: that is an apostrophe, outside and inside.
	expectParse(t, "''a''", text("'a'"))
	expectParse(t, "a''''b", text("a''b"))
	expectParse(t, "''-''", text("'"), minus, text("'"))
	// Apostrophes at a quote's beginning and end.
	expectParse(t, "'''a'", text("'a"))
	expectParse(t, "'a'''", text("a'"))
	expectParse(t, "'''a'''", text("'a'"))
	expectParse(t, "'''''a'''''", text("''a''"))
	expectParse(t, "'a''''b'", text("a''b"))
	expectParse(t, "'a'''b", text("a'b"))
	expectParse(t, "a'''b'", text("a'b"))
	expectParse(t, "'a'''-", text("a'"), minus)
	expectParse(t, "'a''-'-", text("a'-"), minus)
	expectParse(t, "-'''-'''-", minus, text("'-'"), minus)
}

func TestParseQuotesThatDoNotEnd(t *testing.T) {
	for _, s := range []string{"'", "'a", "a'", "-'", "'-", "'0", "'*;#", "'a''", "'a''b", "'''", "'''a", "''a'", "'a'b'", "'a'''b'", "a''''b'", "'a''''", "'\u00a4\u00a4\u00a4\u00a4", "\u00a4'", "'\ufffd", "''''a'''"} {
		expectParseError(t, s, api.ErrAffixQuote)
	}
}

// The first one from the left, whatever is named first.
func TestParseFirstErrorFromTheLeft(t *testing.T) {
	for _, s := range []string{"0'", "0'a", "a*'", "\xff'", "\xff0'a", "0\xff", "\u00a4\u00a4\u00a4\u00a4'", "\u00a4\u00a4\u00a4\u00a40\xff", "'a\xff", "'0\xff", "'a'0'", "'a'\xff'", "'a''\xff", "''0'", "'\u00a4\u00a4\u00a4\u00a4\xff", "'a'\u00a4\u00a4\u00a4\u00a4'b"} {
		expectParseError(t, s, api.ErrAffixToken)
	}
	for _, s := range []string{"'0", "'0,", "'\u00a4\u00a4\u00a4\u00a4", "'a''0", "a-'0"} {
		expectParseError(t, s, api.ErrAffixQuote)
	}
}

// Bytes of the Texts count, not those of quotes and signs.
func TestParseLongTexts(t *testing.T) {
	a63, a64, a65 := repeat("a", 63), repeat("a", 64), repeat("a", 65)
	expectParse(t, a64, text(a64))
	expectParseError(t, a65, api.ErrAffixLong)
	expectParse(t, "'"+a64+"'", text(a64))
	expectParseError(t, "'"+a65+"'", api.ErrAffixLong)
	expectParse(t, a63+"''", text(a63+"'"))
	expectParseError(t, a64+"''", api.ErrAffixLong)
	expectParse(t, "'"+a63+"'''", text(a63+"'"))
	expectParse(t, "-"+a63+"-b-", minus, text(a63), minus, text("b"), minus)
	expectParseError(t, "-"+a63+"-bc-", api.ErrAffixLong)
	expectParseError(t, a64+"-b", api.ErrAffixLong)
	expectParse(t, repeat("é", 32)+"-\u2030\u00a4", text(repeat("é", 32)), minus, permille, coin(1))
	expectParseError(t, repeat("é", 32)+"-a", api.ErrAffixLong)
	expectParseError(t, repeat("é", 33), api.ErrAffixLong)
	expectParse(t, repeat("\U0001F600", 16), text(repeat("\U0001F600", 16)))
	expectParseError(t, repeat("\U0001F600", 17), api.ErrAffixLong)
	expectParse(t, "'0'"+repeat("x'0'", 31)+"y", text("0"+repeat("x0", 31)+"y"))
}

func TestParseManyTokens(t *testing.T) {
	for _, x := range []struct {
		sign string
		l    []api.Token
	}{{"-", tokens(minus)}, {"+", tokens(plus)}, {"%", tokens(percent)}, {"\u2030", tokens(permille)}, {"-+", tokens(minus, plus)}, {"\u00a4a", tokens(coin(1), text("a"))}, {"\u00a4\u00a4\u00a4'-'", tokens(coin(3), text("-"))}} {
		n := 64 / len(x.l)
		expectParse(t, repeat(x.sign, n), times(n, x.l...)...)
		expectParseError(t, repeat(x.sign, n)+"\u00a4", api.ErrAffixLong)
		expectParseError(t, repeat(x.sign, n)+"-", api.ErrAffixLong)
		expectParseError(t, repeat(x.sign, n+1), api.ErrAffixLong)
	}
	// What stands side by side is one token.
	expectParse(t, repeat("-", 63)+"\u00a4\u00a4\u00a4", join(times(63, minus), tokens(coin(3)))...)
	expectParse(t, repeat("-", 63)+repeat("a", 64), join(times(63, minus), tokens(text(repeat("a", 64))))...)
	expectParseError(t, repeat("-", 63)+"\u00a4a", api.ErrAffixLong)
	expectParseError(t, repeat("-", 64)+"a", api.ErrAffixLong)
	expectParseError(t, repeat("-", 64)+"''", api.ErrAffixLong)
}

// What is wrong with the text comes ahead of its being too long, though it stands behind.
func TestParseWrongAheadOfLong(t *testing.T) {
	for _, n := range []int{60, 63, 64, 65, 66, 100, 1000} {
		for _, long := range []string{repeat("a", n+5), repeat("-", n+5), repeat("a-", n+5), repeat("\u00a4a", n+5), repeat("''", n+5), "'" + repeat("0", n+5) + "'", repeat("\u00a4\u00a4\u00a4-", n+5)} {
			expectParseError(t, long, api.ErrAffixLong)
			for _, wrong := range letters() {
				expectParseError(t, long+wrong, api.ErrAffixToken)
			}
			expectParseError(t, long+"\xff", api.ErrAffixToken)
			expectParseError(t, long+"b'", api.ErrAffixQuote)
			expectParseError(t, long+"b'\xff", api.ErrAffixToken)
			expectParseError(t, long+"b'0", api.ErrAffixQuote)
			expectParseError(t, long+"b'0'", api.ErrAffixLong)
			expectParseError(t, long+"b\u00a4\u00a4\u00a4", api.ErrAffixLong)
			expectParseError(t, long+"b\u00a4\u00a4\u00a4\u00a4", api.ErrAffixToken)
			expectParseError(t, long+"b\u00a4a\u00a4-\u00a4''\u00a4", api.ErrAffixLong)
			expectParseError(t, long+"b\u00a4\u00a4'\u00a4'\u00a4\u00a4", api.ErrAffixLong)
		}
	}
}

// Texts of any length end soon.
func TestParseHugeTexts(t *testing.T) {
	const n = 1 << 20
	for _, s := range []string{"a", "-", "''", "a-", "\u00a4a", "'0'x", "'\u00a4\u00a4\u00a4\u00a4'-", "\U0001F600"} {
		huge := repeat(s, n)
		for end, want := range map[string]api.Errno{"": api.ErrAffixLong, "0": api.ErrAffixToken, "x'": api.ErrAffixQuote, "\xff": api.ErrAffixToken} {
			if l, err := affix.Parse(huge + end); err != want || len(l) != 0 {
				t.Errorf("Parse of %q %d times and %q: %d tokens, %d, not %d", s, n, end, len(l), err, want)
			}
		}
	}
}

// All short texts, by the words.
func TestParseAllShortTexts(t *testing.T) {
	tally := map[api.Errno]int{}
	expect := func(s string) {
		want, wantErr := parseByWords(s)
		tally[wantErr]++
		if l, err := affix.Parse(s); err != wantErr || !slices.Equal(l, want) {
			t.Fatalf("Parse(%q): %s, %d, not %s, %d", s, short(l), err, short(want), wantErr)
		}
	}
	for s := range rowsOf(9, "'", "a", "-") {
		expect(s)
	}
	for s := range rowsOf(7, "'", "a", "0", "\u00a4", "%") {
		expect(s)
	}
	for s := range rowsOf(5, "'", "a", "0", "\u00a4", "\xff", "\xc2", "\xa4", "\u2030", "+") {
		expect(s)
	}
	for _, err := range []api.Errno{api.OK, api.ErrAffixToken, api.ErrAffixQuote} {
		if tally[err] < 5000 {
			t.Error("too few of a kind:", tally)
		}
	}
}

func TestParseByWords(t *testing.T) {
	r := source()
	tally := map[api.Errno]int{}
	for range 30000 {
		s := ""
		for range r.IntN(1 + 15*r.IntN(8)) {
			s += oneOf(r, "'"+someText(r, r.IntN(5))+"'", "''", "a", "€", "-", "+", "%", "‰", "¤", "b¤¤", "x¤¤¤x", "-", "(")
		}
		if r.IntN(4) == 0 {
			s += oneOf(r, "'", "0", "\xff", "¤¤¤¤", ";")
		}
		want, wantErr := parseByWords(s)
		tally[wantErr]++
		if l, err := affix.Parse(s); err != wantErr || !slices.Equal(l, want) {
			t.Fatalf("Parse(%q): %s, %d, not %s, %d", s, short(l), err, short(want), wantErr)
		}
	}
	for _, err := range []api.Errno{api.OK, api.ErrAffixToken, api.ErrAffixQuote, api.ErrAffixLong} {
		if tally[err] < 1000 {
			t.Error("too few of a kind:", tally)
		}
	}
}
