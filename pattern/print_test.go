package pattern_test

import (
	"testing"

	"quipu/api"
	"quipu/pattern"
)

// P14.2

func TestPrintExamples(t *testing.T) {
	for s, want := range map[string]string{"####,##0": "#,##0", "*x###0": "*x###0"} {
		p, err := pattern.Parse(s)
		if err != api.OK {
			t.Errorf("Parse(%q): %d", s, err)
		}
		expectPrint(t, want, p)
	}
}

func TestPrintPlaces(t *testing.T) {
	expectPrint(t, "#", api.Pattern{})
	for n := 1; n <= 32; n++ {
		expectPrint(t, repeat("0", n), one(api.Sub{IntMin: n}))
	}
}

func TestPrintGroups(t *testing.T) {
	for _, x := range []struct {
		whole, first, second int
		want                 string
	}{
		{0, 1, 0, "#,#"}, {1, 1, 0, "#,0"}, {2, 1, 0, "0,0"}, {3, 1, 0, "00,0"},
		{0, 3, 0, "#,###"}, {1, 3, 0, "#,##0"}, {3, 3, 0, "#,000"}, {4, 3, 0, "0,000"}, {7, 3, 0, "0000,000"},
		{0, 1, 1, "#,#,#"}, {1, 1, 1, "#,#,0"}, {2, 1, 1, "#,0,0"}, {3, 1, 1, "0,0,0"}, {4, 1, 1, "00,0,0"},
		{1, 3, 2, "#,##,##0"}, {4, 3, 2, "#,#0,000"}, {5, 3, 2, "#,00,000"}, {6, 3, 2, "0,00,000"}, {8, 3, 2, "000,00,000"},
		{1, 3, 3, "#,###,##0"}, {1, 2, 4, "#,####,#0"},
		{0, 16, 0, "#," + repeat("#", 16)}, {1, 16, 16, "#," + repeat("#", 16) + "," + repeat("#", 15) + "0"},
		{32, 16, 16, "#," + repeat("0", 16) + "," + repeat("0", 16)}, {32, 16, 15, "0," + repeat("0", 15) + "," + repeat("0", 16)},
		{32, 1, 0, repeat("0", 31) + ",0"},
	} {
		expectPrint(t, x.want, one(api.Sub{IntMin: x.whole, Primary: x.first, Secondary: x.second}))
		expectPrint(t, x.want+".0#", one(api.Sub{IntMin: x.whole, Primary: x.first, Secondary: x.second, FracMin: 1, FracMax: 2}))
	}
}

func TestPrintFraction(t *testing.T) {
	for most := 1; most <= 32; most++ {
		for least := range most + 1 {
			behind := "." + repeat("0", least) + repeat("#", most-least)
			expectPrint(t, "#"+behind, one(api.Sub{FracMin: least, FracMax: most}))
			expectPrint(t, "00"+behind, one(api.Sub{IntMin: 2, FracMin: least, FracMax: most}))
		}
	}
}

func TestPrintExponent(t *testing.T) {
	for n := 1; n <= 9; n++ {
		expectPrint(t, "#E"+repeat("0", n), one(api.Sub{ExpMin: n}))
		expectPrint(t, "0E+"+repeat("0", n), one(api.Sub{IntMin: 1, ExpMin: n, ExpPlus: true}))
		expectPrint(t, "00.0#E"+repeat("0", n), one(api.Sub{IntMin: 2, FracMin: 1, FracMax: 2, ExpMin: n}))
		expectPrint(t, "0.#E+"+repeat("0", n), one(api.Sub{IntMin: 1, FracMax: 1, ExpMin: n, ExpPlus: true}))
	}
}

func TestPrintAffixes(t *testing.T) {
	for _, x := range []struct {
		l    []api.Token
		text string
	}{
		{nil, ""}, {tokens(), ""}, {tokens(text("a")), "a"}, {tokens(minus), "-"}, {tokens(text("-")), "'-'"}, {tokens(coin(3)), "¤¤¤"},
		{tokens(text("0")), "'0'"}, {tokens(text("'")), "''"}, {tokens(text("a;b*c")), "a';'b'*'c"}, {tokens(text("0'")), "'0'''"},
		{tokens(percent, text(" € "), permille, plus), "% € ‰+"}, {tokens(text("E")), "E"}, {tokens(text("E0")), "E'0'"}, {tokens(text("E"), plus, text("0")), "E+'0'"},
		{tokens(text("E+0")), "E'+0'"}, {tokens(text("#,##0")), "'#,##0'"}, {tokens(text("*x")), "'*'x"}, {tokens(text("\u0301")), "\u0301"},
	} {
		expectPrint(t, x.text+"0", one(api.Sub{IntMin: 1, Prefix: x.l}))
		expectPrint(t, "0"+x.text, one(api.Sub{IntMin: 1, Suffix: x.l}))
		expectPrint(t, x.text+"#"+x.text, one(api.Sub{Prefix: x.l, Suffix: x.l}))
		expectPrint(t, "0E0"+x.text, one(api.Sub{IntMin: 1, ExpMin: 1, Suffix: x.l}))
		expectPrint(t, "0.0"+x.text+";#"+x.text, two(api.Sub{IntMin: 1, FracMin: 1, FracMax: 1, Suffix: x.l}, api.Sub{Suffix: x.l}))
	}
}

func TestPrintFiller(t *testing.T) {
	for _, pad := range []string{"x", "*", "'", ";", "0", "#", ",", ".", "@", "E", "+", "-", " ", "é", "¤", "‰", "€", "\U0001F600", "\x00", "\u0301"} {
		pre, suf := tokens(minus, text("a'")), tokens(text("b"), percent)
		half := func(at, width int) api.Sub {
			return api.Sub{IntMin: 1, Prefix: pre, Suffix: suf, Pad: pad, PadAt: at, Width: width}
		}
		expectPrint(t, "*"+pad+"-a''0b%", one(half(0, 6)))
		expectPrint(t, "-a''*"+pad+"##0b%", one(half(1, 8)))
		expectPrint(t, "-a''#0*"+pad+"b%", one(half(2, 7)))
		expectPrint(t, "-a''0b%*"+pad, one(half(3, 6)))
		expectPrint(t, "-a''0b%*"+pad+";-a''*"+pad+"0b%", two(half(3, 6), half(1, 6)))
		expectPrint(t, "-a''*"+pad+"0b%;*"+pad+"-a''0b%", two(half(1, 6), half(0, 6)))
		expectPrint(t, "*"+pad+"0", one(api.Sub{IntMin: 1, Pad: pad, Width: 1}))
		expectPrint(t, "0*"+pad, one(api.Sub{IntMin: 1, Pad: pad, PadAt: 2, Width: 1}))
		expectPrint(t, "#0*"+pad+";##*"+pad, two(api.Sub{IntMin: 1, Pad: pad, PadAt: 2, Width: 2}, api.Sub{Pad: pad, PadAt: 2, Width: 2}))
	}
}

// A filler's Width is reached by `#` ahead; the groups stay where they are.
func TestPrintWidth(t *testing.T) {
	for more := range 90 {
		ahead := repeat("#", more)
		expectPrint(t, "*x"+ahead+"#", one(api.Sub{Pad: "x", Width: 1 + more}))
		expectPrint(t, ahead+"00*x", one(api.Sub{IntMin: 2, Pad: "x", PadAt: 2, Width: 2 + more}))
		expectPrint(t, "*x"+ahead+"#,##0", one(api.Sub{IntMin: 1, Primary: 3, Pad: "x", Width: 5 + more}))
		expectPrint(t, "*x"+ahead+"#,##,##0", one(api.Sub{IntMin: 1, Primary: 3, Secondary: 2, Pad: "x", Width: 8 + more}))
		expectPrint(t, "*x"+ahead+"0000,000", one(api.Sub{IntMin: 7, Primary: 3, Pad: "x", Width: 8 + more}))
		expectPrint(t, ahead+"0.0#*x", one(api.Sub{IntMin: 1, FracMin: 1, FracMax: 2, Pad: "x", PadAt: 2, Width: 4 + more}))
		expectPrint(t, "*x"+ahead+"0E+00", one(api.Sub{IntMin: 1, ExpMin: 2, ExpPlus: true, Pad: "x", Width: 5 + more}))
		expectPrint(t, "'-'€¤¤"+ahead+"0*é‰", one(api.Sub{IntMin: 1, Pad: "é", PadAt: 2, Width: 6 + more, Prefix: tokens(text("-€"), coin(2)), Suffix: tokens(permille)}))
	}
	expectPrint(t, "*x"+repeat("#", 99), one(api.Sub{Pad: "x", Width: 99}))
}

func TestPrintHalves(t *testing.T) {
	expectPrint(t, "#;#", api.Pattern{HasNeg: true})
	expectPrint(t, "0;(0)", two(api.Sub{IntMin: 1}, api.Sub{IntMin: 1, Prefix: tokens(text("(")), Suffix: tokens(text(")"))}))
	expectPrint(t, "¤#,##0.00;(¤#,##0.00)", two(
		api.Sub{IntMin: 1, FracMin: 2, FracMax: 2, Primary: 3, Prefix: tokens(coin(1))},
		api.Sub{IntMin: 1, FracMin: 2, FracMax: 2, Primary: 3, Prefix: tokens(text("("), coin(1)), Suffix: tokens(text(")"))}))
	expectPrint(t, "#,##0.###;'-'#E0%", two(api.Sub{IntMin: 1, FracMax: 3, Primary: 3}, api.Sub{ExpMin: 1, Prefix: tokens(text("-")), Suffix: tokens(percent)}))
	expectPrint(t, "0';';';'0", two(api.Sub{IntMin: 1, Suffix: tokens(text(";"))}, api.Sub{IntMin: 1, Prefix: tokens(text(";"))}))
}

func TestPrintLong(t *testing.T) {
	long := wide(128)
	expectPrint(t, repeat("a", 64)+repeat("0", 32)+repeat("b", 32), one(long))
	expectPrintError(t, api.ErrPatternLong, one(wide(129)))
	expectPrint(t, repeat("a", 64)+repeat("0", 32)+repeat("b", 30)+";#", two(wide(126), api.Sub{}))
	expectPrintError(t, api.ErrPatternLong, two(wide(127), api.Sub{}))
}

func TestPrintWhatMayNotBe(t *testing.T) {
	for _, p := range []api.Pattern{
		{Pos: api.Sub{IntMin: 33}}, {Pos: api.Sub{IntMin: -1}}, {Pos: api.Sub{FracMin: 2, FracMax: 1}}, {Pos: api.Sub{FracMax: 33}}, {Pos: api.Sub{Primary: 17}},
		{Pos: api.Sub{Secondary: 2}}, {Pos: api.Sub{ExpMin: 10}}, {Pos: api.Sub{ExpPlus: true}}, {Pos: api.Sub{ExpMin: 1, Primary: 3}},
		{Pos: api.Sub{Pad: "xy", Width: 2}}, {Pos: api.Sub{Pad: "x"}}, {Pos: api.Sub{Pad: "x", PadAt: 1, Width: 2}}, {Pos: api.Sub{Pad: "x", PadAt: 3, Width: 2}}, {Pos: api.Sub{Width: 1}}, {Pos: api.Sub{Pad: "x", PadAt: 4, Width: 1}},
		{Pos: api.Sub{Prefix: tokens(text(""))}}, {Pos: api.Sub{Suffix: tokens(coin(4))}},
		{Neg: api.Sub{IntMin: 1}}, {HasNeg: true, Neg: api.Sub{IntMin: 33}},
	} {
		expectPrintError(t, api.ErrPatternForm, p)
	}
}
