package pattern_test

import (
	"math"
	"testing"

	"quipu/api"
	"quipu/pattern"
)

// P14.1

// expectHalf: a half may be, or may not, ahead and behind alike.
func expectHalf(t *testing.T, h api.Sub, may bool) {
	t.Helper()
	want := api.OK
	if !may {
		want = api.ErrPatternForm
		expectCheck(t, two(h, h), want)
	}
	expectCheck(t, one(h), want)
	expectCheck(t, two(api.Sub{}, h), want)
	expectCheck(t, two(h, api.Sub{}), want)
}

// expectBounds: a number may be from one bound to the other, and none beyond them.
func expectBounds(t *testing.T, least, most int, half func(n int) api.Sub) {
	t.Helper()
	for n := least; n <= most; n++ {
		expectHalf(t, half(n), true)
	}
	for _, n := range []int{least - 1, least - 2, most + 1, most + 2, -1, math.MinInt, math.MaxInt, math.MaxInt - 1, math.MinInt + 1, 1 << 32, -1 << 32} {
		if n < least || n > most {
			expectHalf(t, half(n), false)
		}
	}
}

func TestCheckNothing(t *testing.T) { expectHalf(t, api.Sub{}, true) }

func TestCheckIntMin(t *testing.T) {
	expectBounds(t, 0, 32, func(n int) api.Sub { return api.Sub{IntMin: n} })
	expectBounds(t, 0, 32, func(n int) api.Sub { return api.Sub{IntMin: n, Primary: 3, Secondary: 2} })
	expectBounds(t, 0, 32, func(n int) api.Sub { return api.Sub{IntMin: n, Pad: "x", Width: 40} })
}

func TestCheckFrac(t *testing.T) {
	expectBounds(t, 0, 32, func(n int) api.Sub { return api.Sub{FracMax: n} })
	expectBounds(t, 5, 32, func(n int) api.Sub { return api.Sub{FracMin: 5, FracMax: n} })
	for most := range 33 {
		expectBounds(t, 0, most, func(n int) api.Sub { return api.Sub{FracMin: n, FracMax: most} })
	}
	for n := range 5 {
		expectHalf(t, api.Sub{FracMin: 30 + n, FracMax: 30 + n}, n < 3)
		expectHalf(t, api.Sub{FracMin: -n, FracMax: -n}, n == 0)
	}
}

func TestCheckGroups(t *testing.T) {
	expectBounds(t, 0, 16, func(n int) api.Sub { return api.Sub{Primary: n} })
	for primary := range 17 {
		most := 16
		if primary == 0 {
			most = 0
		}
		expectBounds(t, 0, most, func(n int) api.Sub { return api.Sub{IntMin: 1, Primary: primary, Secondary: n} })
	}
	expectBounds(t, 1, 16, func(n int) api.Sub { return api.Sub{Primary: n, Secondary: 1} })
	expectBounds(t, 1, 16, func(n int) api.Sub { return api.Sub{Primary: n, Secondary: 16} })
}

func TestCheckExponent(t *testing.T) {
	expectBounds(t, 0, 9, func(n int) api.Sub { return api.Sub{ExpMin: n} })
	expectBounds(t, 1, 9, func(n int) api.Sub { return api.Sub{ExpMin: n, ExpPlus: true} })
	expectBounds(t, 0, 0, func(n int) api.Sub { return api.Sub{ExpMin: n, Primary: 3} })
	for exp := 1; exp < 10; exp++ {
		expectBounds(t, 0, 0, func(n int) api.Sub { return api.Sub{ExpMin: exp, Primary: n} })
		expectBounds(t, 0, 0, func(n int) api.Sub { return api.Sub{ExpMin: exp, ExpPlus: true, Primary: n} })
	}
	expectHalf(t, api.Sub{ExpPlus: true}, false)
	expectHalf(t, api.Sub{ExpPlus: true, Primary: 3}, false)
}

func TestCheckAffixes(t *testing.T) {
	for _, x := range []struct {
		l   []api.Token
		may bool
	}{
		{nil, true}, {tokens(), true}, {tokens(text("a")), true}, {tokens(minus, plus, percent, permille, coin(3)), true},
		{tokens(text("")), false}, {tokens(text("\xff")), false}, {tokens(text("a"), text("b")), false},
		{tokens(coin(0)), false}, {tokens(coin(4)), false}, {tokens(coin(1), coin(1)), false},
		{tokens(api.Token{Kind: 6}), false}, {tokens(api.Token{Kind: -1}), false}, {tokens(api.Token{Kind: api.TokMinus, Many: 1}), false},
		{tokens(text(repeat("a", 64))), true}, {tokens(text(repeat("a", 65))), false},
		{tokens(text(repeat("a", 40)), minus, text(repeat("a", 24))), true}, {tokens(text(repeat("a", 40)), minus, text(repeat("a", 25))), false},
		{many(minus, 64), true}, {many(minus, 65), false},
	} {
		expectHalf(t, api.Sub{Prefix: x.l}, x.may)
		expectHalf(t, api.Sub{Suffix: x.l}, x.may)
		expectHalf(t, api.Sub{IntMin: 1, Primary: 3, Prefix: tokens(coin(1)), Suffix: x.l}, x.may)
		expectHalf(t, api.Sub{IntMin: 1, FracMax: 3, Prefix: x.l, Suffix: tokens(percent)}, x.may)
	}
}

func many(t api.Token, n int) []api.Token {
	var l []api.Token
	for range n {
		l = append(l, t)
	}
	return l
}

func TestCheckPad(t *testing.T) {
	for pad, may := range map[string]bool{
		"x": true, " ": true, "'": true, "*": true, ";": true, "0": true, "#": true, "\x00": true, "\x7f": true,
		"\u0080": true, "é": true, "¤": true, "€": true, "\ufffd": true, "\ud7ff": true, "\ue000": true, "\U00010000": true, "\U0010ffff": true,
		"xy": false, "é€": false, "e\u0301": false, "**": false, "''": false, "x\x80": false,
		"\x80": false, "\xc3": false, "\xff": false, "\xc0\x80": false, "\xed\xa0\x80": false, "\xf4\x90\x80\x80": false, "\xe2\x82": false,
	} {
		for at := range 4 {
			expectHalf(t, api.Sub{Pad: pad, PadAt: at, Width: 5, Prefix: tokens(minus), Suffix: tokens(minus)}, may)
		}
	}
	for at := -1; at < 5; at++ {
		for width := -1; width < 3; width++ {
			expectHalf(t, api.Sub{PadAt: at, Width: width, Prefix: tokens(minus), Suffix: tokens(minus)}, at == 0 && width == 0)
		}
	}
	expectBounds(t, 0, 0, func(n int) api.Sub { return api.Sub{Width: n} })
	expectBounds(t, 0, 0, func(n int) api.Sub { return api.Sub{PadAt: n, Prefix: tokens(minus), Suffix: tokens(minus)} })
	expectBounds(t, 0, 3, func(n int) api.Sub {
		return api.Sub{Pad: "x", PadAt: n, Width: 3, Prefix: tokens(minus), Suffix: tokens(minus)}
	})
}

func TestCheckPadBesideEmptyAffixes(t *testing.T) {
	for _, full := range [][]api.Token{tokens(text("a")), tokens(coin(2)), tokens(minus)} {
		for at := range 4 {
			for _, empty := range [][]api.Token{nil, {}} {
				expectHalf(t, api.Sub{Pad: "x", PadAt: at, Width: 9, Prefix: empty, Suffix: empty}, at == 0 || at == 2)
				expectHalf(t, api.Sub{Pad: "x", PadAt: at, Width: 9, Prefix: full, Suffix: empty}, at != 3)
				expectHalf(t, api.Sub{Pad: "x", PadAt: at, Width: 9, Prefix: empty, Suffix: full}, at != 1)
				expectHalf(t, api.Sub{Pad: "x", PadAt: at, Width: 9, Prefix: full, Suffix: full}, true)
			}
		}
	}
}

// The length with the least places is the least Width.
func TestCheckWidth(t *testing.T) {
	for _, x := range []struct {
		h     api.Sub
		least int
	}{
		{api.Sub{}, 1},
		{api.Sub{IntMin: 1}, 1},
		{api.Sub{IntMin: 7}, 7},
		{api.Sub{IntMin: 32}, 32},
		{api.Sub{Primary: 3}, 5},
		{api.Sub{IntMin: 4, Primary: 3}, 5},
		{api.Sub{IntMin: 5, Primary: 3}, 6},
		{api.Sub{Primary: 3, Secondary: 2}, 8},
		{api.Sub{IntMin: 6, Primary: 3, Secondary: 2}, 8},
		{api.Sub{IntMin: 7, Primary: 3, Secondary: 2}, 9},
		{api.Sub{IntMin: 32, Primary: 16, Secondary: 16}, 35},
		{api.Sub{FracMax: 2}, 4},
		{api.Sub{FracMin: 2, FracMax: 2}, 4},
		{api.Sub{IntMin: 2, FracMin: 1, FracMax: 32}, 35},
		{api.Sub{IntMin: 1, ExpMin: 1}, 3},
		{api.Sub{IntMin: 1, ExpMin: 9}, 11},
		{api.Sub{ExpMin: 2, ExpPlus: true}, 5},
		{api.Sub{FracMax: 1, ExpMin: 2, ExpPlus: true}, 7},
		{api.Sub{Prefix: tokens(text("ab"))}, 3},
		{api.Sub{Prefix: tokens(text("€€")), Suffix: tokens(text("\U0001F600"))}, 4},
		{api.Sub{Prefix: tokens(text("'-'"))}, 4},
		{api.Sub{Prefix: tokens(text("''''"))}, 5},
		{api.Sub{Prefix: tokens(minus), Suffix: tokens(plus, percent, permille)}, 5},
		{api.Sub{Prefix: tokens(coin(1)), Suffix: tokens(coin(3), text("0"), coin(2))}, 8},
		{api.Sub{IntMin: 32, Prefix: tokens(text(repeat("a", 64))), Suffix: tokens(text("bcd"))}, 99},
	} {
		for _, pad := range []string{"x", "€", "'"} {
			for _, at := range []int{0, 2} {
				expectBounds(t, x.least, 99, func(n int) api.Sub {
					h := x.h
					h.Pad, h.PadAt, h.Width = pad, at, n
					return h
				})
			}
		}
	}
	over := api.Sub{IntMin: 32, Prefix: tokens(text(repeat("a", 64))), Suffix: tokens(text("bcde")), Pad: "x"}
	for width := 97; width < 103; width++ {
		over.Width = width
		expectHalf(t, over, false)
	}
}

func TestCheckOtherHalf(t *testing.T) {
	for _, neg := range []api.Sub{
		{IntMin: 1}, {IntMin: -1}, {FracMin: 1}, {FracMax: 1}, {Primary: 1}, {Secondary: 1}, {ExpMin: 1}, {ExpPlus: true}, {Pad: "x"}, {PadAt: 1}, {Width: 1}, {Width: -1},
		{Prefix: tokens(minus)}, {Suffix: tokens(minus)}, {Prefix: tokens(text(""))}, {Suffix: tokens(api.Token{})},
		{IntMin: 1, FracMax: -1}, {IntMin: 3, FracMin: 4, FracMax: 7}, {IntMin: math.MinInt, Width: math.MinInt},
	} {
		expectCheck(t, api.Pattern{Neg: neg}, api.ErrPatternForm)
		expectCheck(t, api.Pattern{Pos: api.Sub{IntMin: 1}, Neg: neg}, api.ErrPatternForm)
	}
	expectCheck(t, api.Pattern{Neg: api.Sub{Prefix: tokens(), Suffix: tokens()}}, api.OK)
	expectCheck(t, api.Pattern{HasNeg: true}, api.OK)
	expectCheck(t, two(api.Sub{IntMin: 1}, api.Sub{IntMin: 2, Prefix: tokens(minus)}), api.OK)
	expectCheck(t, two(api.Sub{IntMin: 33}, api.Sub{IntMin: 1}), api.ErrPatternForm)
	expectCheck(t, two(api.Sub{IntMin: 1}, api.Sub{IntMin: 33}), api.ErrPatternForm)
}

// wide has a text of so many bytes, 35 to 128.
func wide(n int) api.Sub {
	h := api.Sub{IntMin: 32, Prefix: tokens(text(repeat("a", min(64, n-32))))}
	if n > 96 {
		h.Suffix = tokens(text(repeat("b", n-96)))
	}
	return h
}

func TestCheckLong(t *testing.T) {
	for n := 100; n <= 140; n++ {
		want := okUnless(n > 128)
		expectCheck(t, one(wide(n)), want)
		expectCheck(t, two(wide(n-2), api.Sub{}), want)
		expectCheck(t, two(api.Sub{}, wide(n-2)), want)
		expectCheck(t, two(wide(60), wide(n-61)), want)
	}
	// quotes count, and so do the bytes of a filler and of the places that fill up to Width
	for n := range 10 {
		expectCheck(t, one(api.Sub{IntMin: n, Prefix: tokens(text(repeat("a-", 30))), Suffix: tokens(text("x'"))}), okUnless(n > 5))
	}
	for n := 33; n <= 99; n++ {
		expectCheck(t, one(api.Sub{Pad: "\U0001F600", Width: n, Prefix: tokens(text(repeat("€", 21))), Suffix: tokens(percent, text(repeat("é", 10)))}), okUnless(n > 71))
	}
}

func okUnless(long bool) api.Errno {
	if long {
		return api.ErrPatternLong
	}
	return api.OK
}

func TestCheckFormFirst(t *testing.T) {
	expectCheck(t, two(wide(128), api.Sub{IntMin: -1}), api.ErrPatternForm)
	expectCheck(t, two(api.Sub{IntMin: -1}, wide(128)), api.ErrPatternForm)
	long := wide(140)
	expectCheck(t, one(long), api.ErrPatternLong)
	expectCheck(t, api.Pattern{Pos: long, Neg: api.Sub{IntMin: 1}}, api.ErrPatternForm)
	long.ExpPlus = true
	expectCheck(t, one(long), api.ErrPatternForm)
	long.ExpPlus, long.Width = false, 1
	expectCheck(t, one(long), api.ErrPatternForm)
}

func TestCheckSome(t *testing.T) {
	r := source()
	count := map[api.Errno]int{}
	for range 40000 {
		p := somePattern(r)
		want := checkByWords(p)
		count[want]++
		if err := pattern.Check(p); err != want {
			t.Fatalf("Check(%s): %d, not %d", short(p), err, want)
		}
	}
	if count[api.OK] < 5000 || count[api.ErrPatternForm] < 5000 || count[api.ErrPatternLong] < 100 {
		t.Error("too few of a kind:", count)
	}
}
