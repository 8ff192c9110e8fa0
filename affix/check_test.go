package affix_test

import (
	"math"
	"testing"

	"quipu/affix"
	"quipu/api"
)

// P13.1

func TestErrorsHaveTheirNumbers(t *testing.T) {
	if api.ErrAffixQuote != 130 || api.ErrAffixToken != 131 || api.ErrAffixLong != 132 {
		t.Error("other numbers:", api.ErrAffixQuote, api.ErrAffixToken, api.ErrAffixLong)
	}
}

func TestCheckNoToken(t *testing.T) {
	expectCheck(t, nil, api.OK)
	expectCheck(t, tokens(), api.OK)
}

func TestCheckEachKind(t *testing.T) {
	for _, x := range tokens(text("a"), minus, plus, percent, permille, coin(1), coin(2), coin(3)) {
		expectCheck(t, tokens(x), api.OK)
	}
	for _, kind := range []int{-1, 6, 7, -2, 255, 256, 257, 261, 1 << 32, 1<<32 + 1, math.MinInt, math.MaxInt} {
		for many := range 4 {
			expectCheck(t, tokens(api.Token{Kind: kind, Many: many}), api.ErrAffixToken)
			expectCheck(t, tokens(api.Token{Kind: kind, Many: many, Text: "a"}), api.ErrAffixToken)
		}
		expectCheck(t, tokens(minus, api.Token{Kind: kind}), api.ErrAffixToken)
		expectCheck(t, tokens(api.Token{Kind: kind}, minus), api.ErrAffixToken)
	}
}

func TestCheckMany(t *testing.T) {
	for kind := api.TokText; kind <= api.TokCoin; kind++ {
		for _, many := range []int{math.MinInt, -3, -2, -1, 0, 1, 2, 3, 4, 5, 256, 257, 1<<32 + 1, math.MaxInt} {
			x := api.Token{Kind: kind, Many: many}
			if kind == api.TokText {
				x.Text = "a"
			}
			want := api.ErrAffixToken
			if kind == api.TokCoin && many >= 1 && many <= 3 || kind != api.TokCoin && many == 0 {
				want = api.OK
			}
			expectCheck(t, tokens(x), want)
			expectCheck(t, tokens(permille, x, percent), want)
		}
	}
}

func TestCheckTexts(t *testing.T) {
	good := []string{"a", " ", "\x00", "\x7f", "é", "€", "\U0010ffff", "\ufffd", "-", "'", "''", "0", "¤", "¤¤¤¤", "a-b", "‰"}
	bad := []string{"", "\x80", "\xff", "a\xff", "\xffa", "\xc3", "a\xe2\x82", "\xc0\x80", "\xed\xa0\x80", "\xf4\x90\x80\x80"}
	for _, s := range good {
		expectCheck(t, tokens(text(s)), api.OK)
		expectCheck(t, tokens(minus, text(s), minus), api.OK)
	}
	for _, s := range bad {
		expectCheck(t, tokens(text(s)), api.ErrAffixToken)
		expectCheck(t, tokens(minus, text(s), minus), api.ErrAffixToken)
		expectCheck(t, tokens(text("a"), minus, text(s)), api.ErrAffixToken)
	}
	for _, s := range append(good, bad[1:]...) {
		for _, x := range tokens(minus, plus, percent, permille, coin(1), coin(2), coin(3)) {
			x.Text = s
			expectCheck(t, tokens(x), api.ErrAffixToken)
		}
	}
}

func TestCheckSideBySide(t *testing.T) {
	all := tokens(text("a"), text("b"), minus, plus, percent, permille, coin(1), coin(2), coin(3))
	for _, x := range all {
		for _, y := range all {
			want := api.OK
			if x.Kind == y.Kind && (x.Kind == api.TokText || x.Kind == api.TokCoin) {
				want = api.ErrAffixToken
			}
			expectCheck(t, tokens(x, y), want)
			expectCheck(t, tokens(plus, x, y, plus), want)
			expectCheck(t, tokens(x, minus, y), api.OK)
			expectCheck(t, tokens(x, minus, minus, x, plus, y), api.OK)
		}
	}
	expectCheck(t, tokens(text("a"), coin(1), text("b"), coin(2), text("c")), api.OK)
	expectCheck(t, tokens(coin(1), text("-"), coin(1)), api.OK)
}

func TestCheckManyTokens(t *testing.T) {
	for n := range 200 {
		want := api.OK
		if n > 64 {
			want = api.ErrAffixLong
		}
		for _, x := range tokens(minus, plus, percent, permille) {
			expectCheck(t, times(n, x), want)
		}
		expectCheck(t, times(n, coin(3), text("a"))[:n], want)
		expectCheck(t, times(n, text("a"), minus)[:n], want)
	}
	expectCheck(t, times(1<<20, minus), api.ErrAffixLong)
}

func TestCheckLongTexts(t *testing.T) {
	for n := 1; n < 200; n++ {
		want := api.OK
		if n > 64 {
			want = api.ErrAffixLong
		}
		expectCheck(t, tokens(text(repeat("a", n))), want)
		expectCheck(t, tokens(text(repeat("'", n))), want)
		if n > 1 {
			expectCheck(t, tokens(text(repeat("a", n-1)), minus, text("b")), want)
			expectCheck(t, tokens(minus, text("a"), coin(3), text(repeat("b", n-1)), plus), want)
		}
	}
	// Bytes count, not runes.
	expectCheck(t, tokens(text(repeat("é", 32))), api.OK)
	expectCheck(t, tokens(text(repeat("é", 32)+"a")), api.ErrAffixLong)
	expectCheck(t, tokens(text(repeat("é", 33))), api.ErrAffixLong)
	expectCheck(t, tokens(text(repeat("€", 21)), minus, text("a")), api.OK)
	expectCheck(t, tokens(text(repeat("€", 21)), minus, text("é")), api.ErrAffixLong)
	expectCheck(t, tokens(text(repeat("\U0001F600", 16))), api.OK)
	expectCheck(t, tokens(text(repeat("\U0001F600", 16)), minus, text("a")), api.ErrAffixLong)
	// Signs have no bytes of a Text.
	expectCheck(t, join(times(31, coin(3), permille), tokens(coin(3), text(repeat("a", 64)))), api.OK)
	expectCheck(t, join(times(31, coin(3), permille), tokens(coin(3), text(repeat("a", 65)))), api.ErrAffixLong)
	expectCheck(t, tokens(text(repeat("a", 1<<20))), api.ErrAffixLong)
}

// Where both apply it is ErrAffixToken, wherever the token stands.
func TestCheckTokenAheadOfLong(t *testing.T) {
	bad := [][]api.Token{tokens(coin(0)), tokens(coin(4)), tokens(text("")), tokens(text("\xff")), tokens(api.Token{Kind: 6}), tokens(api.Token{Kind: -1}), tokens(api.Token{Kind: 1, Many: 1}), tokens(coin(1), coin(1)), tokens(text("a"), text("b"))}
	for _, x := range bad {
		for _, n := range []int{0, 1, 62, 63, 64, 65, 66, 1000} {
			expectCheck(t, join(x, times(n, minus)), api.ErrAffixToken)
			expectCheck(t, join(times(n, minus), x), api.ErrAffixToken)
			expectCheck(t, join(times(n, minus), x, times(n, plus)), api.ErrAffixToken)
		}
		for _, n := range []int{1, 63, 64, 65, 66, 1000} {
			long := tokens(text(repeat("a", n)), minus)
			expectCheck(t, join(long, x), api.ErrAffixToken)
			expectCheck(t, join(x, tokens(minus), long), api.ErrAffixToken)
			expectCheck(t, join(long, x, tokens(minus), long), api.ErrAffixToken)
		}
	}
	expectCheck(t, tokens(text(repeat("a", 70)+"\xff")), api.ErrAffixToken)
	expectCheck(t, tokens(text(repeat("a", 70)), text(repeat("b", 70))), api.ErrAffixToken)
	expectCheck(t, tokens(api.Token{Text: repeat("a", 70), Many: 1}), api.ErrAffixToken)
	expectCheck(t, tokens(api.Token{Kind: api.TokMinus, Text: repeat("a", 70)}), api.ErrAffixToken)
}

// Any tokens at all, by the words.
func TestCheckByWords(t *testing.T) {
	r := source()
	tally := map[api.Errno]int{}
	for range 20000 {
		l := someTokens(r, r.IntN(70))
		if r.IntN(2) == 0 && len(l) > 0 {
			l[r.IntN(len(l))] = oddToken(r)
		}
		want := checkByWords(l)
		tally[want]++
		if err := affix.Check(l); err != want {
			t.Fatalf("Check(%s): %d, not %d", short(l), err, want)
		}
	}
	for _, err := range []api.Errno{api.OK, api.ErrAffixToken, api.ErrAffixLong} {
		if tally[err] < 500 {
			t.Error("too few of a kind:", tally)
		}
	}
}
