package affix_test

import (
	"math"
	"slices"
	"testing"

	"quipu/affix"
	"quipu/api"
)

// P13.4

func expectTurn(t *testing.T, l []api.Token, from, to int, want ...api.Token) {
	t.Helper()
	if got := affix.Turn(l, from, to); !slices.Equal(got, want) {
		t.Errorf("Turn(%s, %d, %d): %s, not %s", short(l), from, to, short(got), short(want))
	}
}

func expectHas(t *testing.T, l []api.Token, kind int, want bool) {
	t.Helper()
	if got := affix.Has(l, kind); got != want {
		t.Errorf("Has(%s, %d): %t, not %t", short(l), kind, got, want)
	}
}

// ofEach: a token of each kind, at the place of its kind.
func ofEach() []api.Token { return tokens(text("x"), minus, plus, percent, permille, coin(3)) }

func TestTurnExamples(t *testing.T) {
	l := tokens(minus, text("x"))
	expectTurn(t, l, api.TokMinus, api.TokPlus, plus, text("x"))
	expectHas(t, affix.Turn(l, api.TokMinus, api.TokPlus), api.TokMinus, false)
	expectHas(t, l, api.TokMinus, true)
}

// What is turned has no Text and Many 0, also to its own kind.
func TestTurnEachKindToEachKind(t *testing.T) {
	for from := range ofEach() {
		for to := range ofEach() {
			want := ofEach()
			want[from] = api.Token{Kind: to}
			expectTurn(t, ofEach(), from, to, want...)
			expectTurn(t, join(ofEach(), ofEach()), from, to, join(want, want)...)
			expectTurn(t, ofEach()[from:from+1], from, to, api.Token{Kind: to})
		}
	}
}

func TestTurnOfNoSuchKind(t *testing.T) {
	expectTurn(t, nil, api.TokMinus, api.TokPlus)
	expectTurn(t, tokens(), api.TokText, api.TokText)
	for from := range ofEach() {
		l := slices.Delete(ofEach(), from, from+1)
		for to := range ofEach() {
			expectTurn(t, l, from, to, l...)
		}
	}
	for _, from := range []int{-1, 6, 256, 257, math.MinInt, math.MaxInt} {
		expectTurn(t, ofEach(), from, api.TokPlus, ofEach()...)
	}
}

// Tokens are not checked, neither those that are handed in nor those that come.
func TestTurnChecksNothing(t *testing.T) {
	odd := tokens(text(""), text("\xff"), coin(-7), api.Token{Kind: 9, Many: 2, Text: "n"}, api.Token{Kind: -1, Text: "b"}, api.Token{Kind: api.TokMinus, Many: 5, Text: "m"}, coin(1), coin(2))
	expectTurn(t, odd, api.TokPlus, api.TokMinus, odd...)
	expectTurn(t, odd, api.TokMinus, api.TokPlus, odd[0], odd[1], odd[2], odd[3], odd[4], plus, odd[6], odd[7])
	expectTurn(t, odd, 9, -3, odd[0], odd[1], odd[2], api.Token{Kind: -3}, odd[4], odd[5], odd[6], odd[7])
	expectTurn(t, odd, -1, api.TokText, odd[0], odd[1], odd[2], odd[3], api.Token{}, odd[5], odd[6], odd[7])
	expectTurn(t, odd, api.TokCoin, math.MaxInt, odd[0], odd[1], api.Token{Kind: math.MaxInt}, odd[3], odd[4], odd[5], api.Token{Kind: math.MaxInt}, api.Token{Kind: math.MaxInt})
	expectTurn(t, times(100, minus), api.TokMinus, api.TokCoin, times(100, coin(0))...)
	expectTurn(t, tokens(text(repeat("a", 1000)), minus), api.TokMinus, api.TokText, text(repeat("a", 1000)), text(""))
}

func TestHas(t *testing.T) {
	for kind := range ofEach() {
		expectHas(t, nil, kind, false)
		expectHas(t, tokens(), kind, false)
		expectHas(t, ofEach(), kind, true)
		for other := range ofEach() {
			expectHas(t, ofEach()[other:other+1], kind, kind == other)
		}
		expectHas(t, slices.Delete(ofEach(), kind, kind+1), kind, false)
		expectHas(t, join(times(500, minus, plus), tokens(ofEach()[kind])), kind, true)
	}
	for _, none := range []int{-1, 6, 256, math.MinInt, math.MaxInt} {
		expectHas(t, ofEach(), none, false)
		expectHas(t, nil, none, false)
	}
	// It is the kind alone that counts.
	expectHas(t, tokens(text("\xff")), api.TokText, true)
	expectHas(t, tokens(coin(0)), api.TokCoin, true)
	expectHas(t, tokens(api.Token{Kind: 7}), 7, true)
	expectHas(t, tokens(text("-+%")), api.TokMinus, false)
}
