package pattern_test

import (
	"testing"

	"quipu/api"
	"quipu/pattern"
)

// P14.3

func TestParseExamples(t *testing.T) {
	expectParse(t, "#,##0.###", one(api.Sub{IntMin: 1, FracMax: 3, Primary: 3}))
	expectParse(t, "#,##,##0.00", one(api.Sub{IntMin: 1, FracMin: 2, FracMax: 2, Primary: 3, Secondary: 2}))
	expectParse(t, "0", one(api.Sub{IntMin: 1}))
	expectParse(t, "#", api.Pattern{})
	expectParse(t, "####", api.Pattern{})
	expectParse(t, "00.0#", one(api.Sub{IntMin: 2, FracMin: 1, FracMax: 2}))
	money := api.Sub{IntMin: 1, FracMin: 2, FracMax: 2, Primary: 3, Prefix: tokens(coin(1))}
	below := money
	below.Prefix, below.Suffix = tokens(text("("), coin(1)), tokens(text(")"))
	expectParse(t, "\u00a4#,##0.00;(\u00a4#,##0.00)", two(money, below))
	expectParse(t, "*x#0", one(api.Sub{IntMin: 1, Pad: "x", Width: 2}))
	expectParse(t, "$*x#0", one(api.Sub{IntMin: 1, Pad: "x", PadAt: 1, Width: 3, Prefix: tokens(text("$"))}))
	expectParse(t, "#0*x", one(api.Sub{IntMin: 1, Pad: "x", PadAt: 2, Width: 2}))
	expectParse(t, "0E0", one(api.Sub{IntMin: 1, ExpMin: 1}))
	expectParse(t, "0E+00", one(api.Sub{IntMin: 1, ExpMin: 2, ExpPlus: true}))
	expectParse(t, "0E", one(api.Sub{IntMin: 1, Suffix: tokens(text("E"))}))
	expectParse(t, "0Ex", one(api.Sub{IntMin: 1, Suffix: tokens(text("Ex"))}))
	expectParseError(t, api.ErrPatternText, "", "a", "0.", ".0", "0#", ",0", "0,", "#,,0", "0;", "#,#,#,0", "*x*y0")
	expectParseError(t, api.ErrPatternForm, "#,##0E0")
}

func TestParsePlaces(t *testing.T) {
	for signs := range 40 {
		for noughts := range 32 {
			if signs+noughts > 0 {
				expectParse(t, repeat("#", signs)+repeat("0", noughts), one(api.Sub{IntMin: noughts}))
			}
		}
	}
	expectParseError(t, api.ErrPatternText, "0#", "#0#", "00##", "0#0", "1", "9", "12", "10", "01", "#1", "@", "@@", "#@", "@#", "0@", "0 0", "# 0", "0a0", "0'a'0", "#''#")
}

func TestParseManySigns(t *testing.T) {
	expectParse(t, repeat("#", 128), api.Pattern{})
	expectParse(t, repeat("#", 96)+repeat("0", 32), one(api.Sub{IntMin: 32}))
	expectParse(t, repeat("#", 100)+",##0", one(api.Sub{IntMin: 1, Primary: 3}))
	expectParse(t, repeat("#", 50)+",##,##0.0;"+repeat("#", 50)+"00", two(api.Sub{IntMin: 1, Primary: 3, Secondary: 2, FracMin: 1, FracMax: 1}, api.Sub{IntMin: 2}))
	expectParse(t, repeat("#", 60)+"0E0", one(api.Sub{IntMin: 1, ExpMin: 1}))
	expectParseError(t, api.ErrPatternForm, repeat("0", 33), repeat("0", 128), "#"+repeat("0", 33), "0;"+repeat("0", 33))
}

// A `,` may stand behind a place and ahead of one, and two may; what is behind the last is Primary, what is between them Secondary.
func TestParseGroups(t *testing.T) {
	for places := 1; places <= 9; places++ {
		for noughts := range places + 1 {
			row := repeat("#", places-noughts) + repeat("0", noughts)
			for i := range places + 1 {
				s := row[:i] + "," + row[i:]
				if i == 0 || i == places {
					expectParseError(t, api.ErrPatternText, s, s+".0")
				} else {
					expectParse(t, s, one(api.Sub{IntMin: noughts, Primary: places - i}))
				}
				for j := i; j <= places; j++ {
					s := row[:i] + "," + row[i:j] + "," + row[j:]
					if i == 0 || i == j || j == places {
						expectParseError(t, api.ErrPatternText, s)
					} else {
						expectParse(t, s, one(api.Sub{IntMin: noughts, Primary: places - j, Secondary: j - i}))
					}
				}
			}
		}
	}
	expectParseError(t, api.ErrPatternText, ",", ",,", "#,#,#,#", "0,0,0,0", "#,##,##,##0", "0,0#", "#,0#", "0,#", "#,a", "0.0,0", "0.,0", "0.0,", "0,.0", "0E0,0", "0E,0", "0E0,", "',',0", "0',0'0")
	expectParse(t, "','0", one(api.Sub{IntMin: 1, Prefix: tokens(text(","))}))
	expectParse(t, "0','", one(api.Sub{IntMin: 1, Suffix: tokens(text(","))}))
	for n := 1; n < 40; n++ {
		want, wantErr := one(api.Sub{Primary: n}), api.OK
		other := one(api.Sub{Primary: 2, Secondary: n})
		if n > 16 {
			want, other, wantErr = api.Pattern{}, api.Pattern{}, api.ErrPatternForm
		}
		expectParsed(t, "#,"+repeat("#", n), want, wantErr)
		expectParsed(t, "##,"+repeat("#", n)+",##", other, wantErr)
	}
}

func TestParseFraction(t *testing.T) {
	for least := range 32 {
		for more := range 33 - least {
			s := "#." + repeat("0", least) + repeat("#", more)
			if least+more == 0 {
				expectParseError(t, api.ErrPatternText, s)
			} else {
				expectParse(t, s, one(api.Sub{FracMin: least, FracMax: least + more}))
			}
		}
	}
	expectParseError(t, api.ErrPatternForm, "0."+repeat("0", 33), "0."+repeat("#", 33), "0."+repeat("0", 20)+repeat("#", 13))
	expectParseError(t, api.ErrPatternText, ".", ".0", ".#", "0.#0", "0.0#0", "0..0", "0.0.0", "0.a", "0.E0", "0.;0", "0.*x", "0.'0'", "a.0", "0'.'0", "*x.0")
	expectParse(t, "0'.'", one(api.Sub{IntMin: 1, Suffix: tokens(text("."))}))
}

func TestParseExponent(t *testing.T) {
	for n := 1; n <= 9; n++ {
		expectParse(t, "0E"+repeat("0", n), one(api.Sub{IntMin: 1, ExpMin: n}))
		expectParse(t, "##0E+"+repeat("0", n), one(api.Sub{IntMin: 1, ExpMin: n, ExpPlus: true}))
		expectParse(t, "0.##E"+repeat("0", n)+"E", one(api.Sub{IntMin: 1, FracMax: 2, ExpMin: n, Suffix: tokens(text("E"))}))
		expectParse(t, "#E+"+repeat("0", n)+"+", one(api.Sub{ExpMin: n, ExpPlus: true, Suffix: tokens(plus)}))
	}
	expectParseError(t, api.ErrPatternForm, "0E"+repeat("0", 10), "0E+"+repeat("0", 10), "#,#E0", "#,##0.0E+00", "#,#,#E0")
	suffix := func(s string, l ...api.Token) {
		t.Helper()
		expectParse(t, "0"+s, one(api.Sub{IntMin: 1, Suffix: l}))
		expectParse(t, "0.#"+s, one(api.Sub{IntMin: 1, FracMax: 1, Suffix: l}))
	}
	suffix("E", text("E"))
	suffix("E+", text("E"), plus)
	suffix("EE", text("EE"))
	suffix("E'0'", text("E0"))
	suffix("'E'", text("E"))
	suffix("'E0'", text("E0"))
	suffix("E+'0'", text("E"), plus, text("0"))
	suffix("E''", text("E'"))
	suffix("E++", text("E"), plus, plus)
	suffix("E-", text("E"), minus)
	suffix("e", text("e"))
	suffix("E %", text("E "), percent)
	expectParse(t, "E0", one(api.Sub{IntMin: 1, Prefix: tokens(text("E"))}))
	expectParse(t, "E+0", one(api.Sub{IntMin: 1, Prefix: tokens(text("E"), plus)}))
	expectParse(t, "E0E0E", one(api.Sub{IntMin: 1, ExpMin: 1, Prefix: tokens(text("E")), Suffix: tokens(text("E"))}))
	expectParse(t, "#,##0E", one(api.Sub{IntMin: 1, Primary: 3, Suffix: tokens(text("E"))}))
	expectParse(t, "0E;0E0", two(api.Sub{IntMin: 1, Suffix: tokens(text("E"))}, api.Sub{IntMin: 1, ExpMin: 1}))
	expectParse(t, "0E*0", one(api.Sub{IntMin: 1, Suffix: tokens(text("E")), Pad: "0", PadAt: 3, Width: 2}))
	expectParse(t, "0*EE", one(api.Sub{IntMin: 1, Suffix: tokens(text("E")), Pad: "E", PadAt: 2, Width: 2}))
	expectParseError(t, api.ErrPatternText, "E", "E+", "0E#", "0E0#", "0E1", "0E01", "0E+#", "0E++0", "0E-0", "0E0.0", "0E0E0", "0EE0", "0E+0+0", "0e0", "0'E'0", "0E0'", "0*xE0", "0 E0")
}

func TestParseFillers(t *testing.T) {
	a, b := tokens(text("a")), tokens(text("b"))
	for _, pad := range []string{"x", "*", "'", ";", "0", "5", "#", ",", ".", "@", "E", "+", "-", "%", " ", "é", "¤", "‰", "€", "\U0001F600", "\x00", "\x7f", "\ufffd", "\u0301"} {
		expectParse(t, "*"+pad+"0", one(api.Sub{IntMin: 1, Pad: pad, Width: 1}))
		expectParse(t, "*"+pad+"a0b", one(api.Sub{IntMin: 1, Prefix: a, Suffix: b, Pad: pad, Width: 3}))
		expectParse(t, "a*"+pad+"0b", one(api.Sub{IntMin: 1, Prefix: a, Suffix: b, Pad: pad, PadAt: 1, Width: 3}))
		expectParse(t, "a0*"+pad+"b", one(api.Sub{IntMin: 1, Prefix: a, Suffix: b, Pad: pad, PadAt: 2, Width: 3}))
		expectParse(t, "a0b*"+pad, one(api.Sub{IntMin: 1, Prefix: a, Suffix: b, Pad: pad, PadAt: 3, Width: 3}))
		expectParse(t, "a#0*"+pad, one(api.Sub{IntMin: 1, Prefix: a, Pad: pad, PadAt: 2, Width: 3}))
		expectParse(t, "0*"+pad+";0*"+pad, two(api.Sub{IntMin: 1, Pad: pad, PadAt: 2, Width: 1}, api.Sub{IntMin: 1, Pad: pad, PadAt: 2, Width: 1}))
		expectParse(t, "0b*"+pad+";*"+pad+"0", two(api.Sub{IntMin: 1, Suffix: b, Pad: pad, PadAt: 3, Width: 2}, api.Sub{IntMin: 1, Pad: pad, Width: 1}))
		expectParseError(t, api.ErrPatternText, "*"+pad, "*"+pad+"*x0", "*x*"+pad+"0", "*"+pad+"a*x0b", "*"+pad+"0*x", "*"+pad+"a0b*x", "a*"+pad+"0*x", "a*x0b*"+pad, "0*x*"+pad, "0*xb*"+pad, "0b*"+pad+"*x", "0*"+pad+";", "0b*"+pad+"c", "0b*"+pad+"0", "0*"+pad+"0", "#*"+pad+"#", "a*"+pad+"b0", "0.*"+pad, "#,*"+pad+"0", "0E*"+pad+"0")
	}
	expectParse(t, "''*'0", one(api.Sub{IntMin: 1, Prefix: tokens(text("'")), Pad: "'", PadAt: 1, Width: 2}))
	expectParse(t, "0*'''", one(api.Sub{IntMin: 1, Suffix: tokens(text("'")), Pad: "'", PadAt: 2, Width: 2}))
	expectParse(t, "*'''0", one(api.Sub{IntMin: 1, Prefix: tokens(text("'")), Pad: "'", Width: 2}))
	expectParse(t, "'*'0'*'", one(api.Sub{IntMin: 1, Prefix: tokens(text("*")), Suffix: tokens(text("*"))}))
	expectParseError(t, api.ErrPatternText, "*", "0*", "a*", "0a*", "0;*", "0;0*", "*0", "*#", "***0", "*'a'0", "0*'a'", "*\xff0", "*\x800", "*\xc30", "0*\xff", "0*\xe2\x82", "0a*\xff", "*\xe2\x820")
}

// Width is the length as it stands: runes, with what parts the digits, without quotes and without the filler.
func TestParseWidth(t *testing.T) {
	for s, width := range map[string]int{
		"*x#": 1, "*x####": 4, "*x#,##0.00": 8, "*x####,##0": 8, "*x#,##,##0": 8, "*x0.0#E+00": 8, "*x##0E0": 5, "0*x": 1, "*€€0": 2, "a0€*x": 3, "*x¤¤¤0¤": 5,
		"'a'*x0": 2, "''*x0": 2, "*x'a''b'0": 4, "*x0'#0;*'": 5, "*x-+%‰0": 5, "*x'-'+0": 3, "*x\U0001F6000\u0301": 3, "*x0E": 2, "*x0'E0'": 3,
		"*x" + repeat("#", 99): 99, repeat("#", 66) + "'" + repeat("-", 32) + "0'*x": 99,
	} {
		for _, text := range []string{s, "0;" + s} {
			p, err := pattern.Parse(text)
			got := p.Pos.Width + p.Neg.Width
			if err != api.OK || got != width {
				t.Errorf("Parse(%q): Width %d, not %d, %d", text, got, width, err)
			}
			if want, _ := parseByWords(text); !same(p, want) {
				t.Errorf("Parse(%q): %s, not %s", text, short(p), short(want))
			}
		}
	}
	expectParseError(t, api.ErrPatternForm, "*x"+repeat("#", 100), repeat("#", 126)+"*x", "*x"+repeat("#", 67)+"'"+repeat("-", 32)+"0'")
}

func TestParseAffixes(t *testing.T) {
	for _, x := range []struct {
		text string
		l    []api.Token
	}{
		{"a", tokens(text("a"))}, {"'a'", tokens(text("a"))}, {"''", tokens(text("'"))}, {"'0'", tokens(text("0"))}, {"'#,##0.00;*x@9'", tokens(text("#,##0.00;*x@9"))},
		{"a'0'b", tokens(text("a0b"))}, {"'0''1'", tokens(text("0'1"))}, {"'''0'", tokens(text("'0"))}, {"'0'''", tokens(text("0'"))}, {"''''", tokens(text("''"))}, {"'''0'''", tokens(text("'0'"))}, {"''a''", tokens(text("'a'"))},
		{"-", tokens(minus)}, {"'-'", tokens(text("-"))}, {"-'-'-", tokens(minus, text("-"), minus)}, {"¤¤", tokens(coin(2))}, {"'¤'¤", tokens(text("¤"), coin(1))},
		{" \u00a0", tokens(text(" \u00a0"))}, {"€", tokens(text("€"))}, {"\x00", tokens(text("\x00"))}, {"(%)", tokens(text("("), percent, text(")"))},
	} {
		expectParse(t, x.text+"0", one(api.Sub{IntMin: 1, Prefix: x.l}))
		expectParse(t, "0"+x.text, one(api.Sub{IntMin: 1, Suffix: x.l}))
		expectParse(t, x.text+"0"+x.text+";"+x.text+"#.0"+x.text, two(api.Sub{IntMin: 1, Prefix: x.l, Suffix: x.l}, api.Sub{FracMin: 1, FracMax: 1, Prefix: x.l, Suffix: x.l}))
		length := runesByWords(x.l)
		expectParse(t, x.text+"*x0", one(api.Sub{IntMin: 1, Prefix: x.l, Pad: "x", PadAt: 1, Width: 1 + length}))
		expectParse(t, "0"+x.text+"*x", one(api.Sub{IntMin: 1, Suffix: x.l, Pad: "x", PadAt: 3, Width: 1 + length}))
	}
	expectParseError(t, api.ErrPatternText,
		"'0", "0'", "'", "'0'", "''0'", "0'''", "'a''0", "0'a''", "'0''", "¤¤¤¤0", "0¤¤¤¤", "0'a", "0;'0", "0';0", "0;0'", "'a", "a'b",
		"\xff0", "0\xff", "a\xc30", "0\xc3", "'\xff'0", "0'\xff'", "0\xe2\x82", "\xed\xa0\x800", "0;\xff0", "0;0\xff", "\xc0\x800", "0\xf4\x90\x80\x80")
}

// An affix that chapter 13's Parse does not take is none, whatever is wrong with it.
func TestParseLongAffixes(t *testing.T) {
	expectParse(t, repeat("a", 64)+"0", one(api.Sub{IntMin: 1, Prefix: tokens(text(repeat("a", 64)))}))
	expectParse(t, "0"+repeat("-", 64), one(api.Sub{IntMin: 1, Suffix: many(minus, 64)}))
	expectParseError(t, api.ErrPatternText, repeat("a", 65)+"0", "0"+repeat("a", 65), repeat("-", 65)+"0", "0"+repeat("-", 65), "0;"+repeat("a", 65)+"0", repeat("a", 65)+"#,##0E0")
}

func TestParseHalves(t *testing.T) {
	expectParse(t, "0;0", two(api.Sub{IntMin: 1}, api.Sub{IntMin: 1}))
	expectParse(t, "0;#", two(api.Sub{IntMin: 1}, api.Sub{}))
	expectParse(t, "#;##", two(api.Sub{}, api.Sub{}))
	expectParse(t, "0;-0", two(api.Sub{IntMin: 1}, api.Sub{IntMin: 1, Prefix: tokens(minus)}))
	expectParse(t, "0';'", one(api.Sub{IntMin: 1, Suffix: tokens(text(";"))}))
	expectParse(t, "0';';0", two(api.Sub{IntMin: 1, Suffix: tokens(text(";"))}, api.Sub{IntMin: 1}))
	expectParse(t, "';'0", one(api.Sub{IntMin: 1, Prefix: tokens(text(";"))}))
	expectParse(t, "0;';'0", two(api.Sub{IntMin: 1}, api.Sub{IntMin: 1, Prefix: tokens(text(";"))}))
	expectParse(t, "0'';0", two(api.Sub{IntMin: 1, Suffix: tokens(text("'"))}, api.Sub{IntMin: 1}))
	expectParse(t, "0'a'';b'", one(api.Sub{IntMin: 1, Suffix: tokens(text("a';b"))}))
	expectParse(t, "*;0", one(api.Sub{IntMin: 1, Pad: ";", Width: 1}))
	expectParse(t, "0*;;*;0", two(api.Sub{IntMin: 1, Pad: ";", PadAt: 2, Width: 1}, api.Sub{IntMin: 1, Pad: ";", Width: 1}))
	expectParseError(t, api.ErrPatternText, ";", ";0", "0;", "0;;", "0;;0", "0;0;", "0;0;0", "a;0", "0;a", "0a;", "-;0", "0;-", "0';';", "';';0", "0;0a;0", "*x;0")
}

func TestParseLong(t *testing.T) {
	expectParse(t, repeat("#", 128), api.Pattern{})
	expectParse(t, repeat("#", 127)+"0", one(api.Sub{IntMin: 1}))
	expectParse(t, "0"+repeat("-", 63)+";"+repeat("#", 63), two(api.Sub{IntMin: 1, Suffix: many(minus, 63)}, api.Sub{}))
	expectParseError(t, api.ErrPatternText, repeat("a", 128), repeat("\xff", 128), repeat("#", 127)+".", repeat("#", 127)+"'", repeat(" ", 128))
	expectParseError(t, api.ErrPatternLong, repeat("#", 129), repeat("0", 129), repeat("a", 129), repeat("\xff", 129), repeat("'", 129), repeat("0;", 65), repeat("#", 128)+"\xff", "#,#E0"+repeat("a", 124), repeat("#", 5000))
}

// A text may be short enough, but not the one that Print would tell.
func TestParseWhatHasALongForm(t *testing.T) {
	inQuotes := "'" + repeat("-a", 31) + "'" // 62 bytes in 64, which are told by 124
	told := tokens(text(repeat("-a", 31)))
	for n := 1; n < 10; n++ {
		want, wantErr := one(api.Sub{IntMin: n, Suffix: told}), api.OK
		if n > 4 {
			want, wantErr = api.Pattern{}, api.ErrPatternLong
		}
		expectParsed(t, repeat("0", n)+inQuotes, want, wantErr)
		expectParsed(t, "###"+repeat("0", n)+inQuotes, want, wantErr)
	}
	expectParse(t, inQuotes+"0;00", two(api.Sub{IntMin: 1, Prefix: told}, api.Sub{IntMin: 2}))
	expectParseError(t, api.ErrPatternLong, inQuotes+"0;000", inQuotes+"0;-00", inQuotes+"0;'a'00")
	expectParseError(t, api.ErrPatternForm, inQuotes+"0E"+repeat("0", 10), inQuotes+"#,##0E0")
}

// What is no text comes ahead of what may not be, in whichever half.
func TestParseTextFirst(t *testing.T) {
	expectParseError(t, api.ErrPatternText, "#,##0E0;", "#,##0E0;a", "a;#,##0E0", "0.;#,##0E0", repeat("0", 33)+"#", "#,##0E0'", "*x"+repeat("#", 100)+"*y", "#,##0E0;0;0")
	expectParseError(t, api.ErrPatternForm, "#,##0E0;0", "0;#,##0E0", "#,##0E0;#,##0E0", repeat("0", 33)+";*x0")
}

func TestParseShortTexts(t *testing.T) {
	count := map[api.Errno]int{}
	for most, pieces := range map[int][]string{
		9: {"#", "0", ","},
		6: {"#", "0", ",", ".", "E", "+"},
		7: {"*", "'", "0", ";", "a"},
		5: {"#", "0", ",", ".", "E", "+", "*", "'", ";", "a", "-", "¤", "\xff", "€", "@"},
		8: {"0", "'", "E", ";"},
	} {
		for s := range rowsOf(most, pieces...) {
			expectSame(t, s, count)
		}
	}
	if count[api.OK] < 10000 || count[api.ErrPatternText] < 10000 || count[api.ErrPatternForm] < 20 {
		t.Error("too few of a kind:", count)
	}
}

func TestParseSome(t *testing.T) {
	r := source()
	count := map[api.Errno]int{}
	for range 60000 {
		expectSame(t, somePatternText(r), count)
	}
	if count[api.OK] < 10000 || count[api.ErrPatternText] < 5000 || count[api.ErrPatternForm] < 1000 {
		t.Error("too few of a kind:", count)
	}
}

// expectSame: Parse tells what the words say.
func expectSame(t *testing.T, s string, count map[api.Errno]int) {
	t.Helper()
	want, wantErr := parseByWords(s)
	count[wantErr]++
	if p, err := pattern.Parse(s); err != wantErr || !same(p, want) {
		t.Fatalf("Parse(%q): %s, %d, not %s, %d", s, short(p), err, short(want), wantErr)
	}
}

// Each byte and each rune, in each place where it could be something else.
func TestParseEachRune(t *testing.T) {
	count := map[api.Errno]int{}
	for b := range 256 {
		r := string([]byte{byte(b)})
		for _, s := range []string{r, r + "0", "0" + r, "#" + r + "0", "0." + r, "0.0" + r, "0E" + r, "0E" + r + "0", "0E0" + r, "*" + r + "0", "0*" + r, "0;" + r + "0", "'" + r + "'0", "0'" + r + "'", "''" + r + "0", "0a" + r + "0"} {
			expectSame(t, s, count)
		}
	}
	for r := rune(0x80); r <= 0x10ffff; r++ {
		if r >= 0xd800 && r <= 0xdfff || r > 0x3000 && r%977 != 0 {
			continue
		}
		for _, s := range []string{string(r) + "0", "0*" + string(r), "0E" + string(r) + "0"} {
			expectSame(t, s, count)
		}
	}
}
