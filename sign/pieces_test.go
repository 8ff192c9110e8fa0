package sign_test

import (
	"testing"

	"quipu/api"
)

// P19.3

func TestPiecesExamples(t *testing.T) {
	expectPieces(t, tokens(minus, text("a"), coin(1)), api.Symbols{Minus: "-"}, "$", api.Piece{Text: "-", Field: api.Sign}, api.Piece{Text: "a", Field: api.Literal}, api.Piece{Text: "$", Field: api.Currency})
}

func TestPiecesOfEachKind(t *testing.T) {
	s := symbols()
	for _, x := range []struct {
		token api.Token
		piece api.Piece
	}{
		{text("a"), api.Piece{Text: "a", Field: api.Literal}},
		{minus, api.Piece{Text: "\u2212", Field: api.Sign}},
		{plus, api.Piece{Text: "pl", Field: api.Sign}},
		{percent, api.Piece{Text: "%\u061c", Field: api.PercentSign}},
		{permille, api.Piece{Text: "\u2030", Field: api.PermilleSign}},
		{coin(1), api.Piece{Text: "EUR", Field: api.Currency}},
		{coin(2), api.Piece{Text: "EUR", Field: api.Currency}},
		{coin(3), api.Piece{Text: "EUR", Field: api.Currency}},
	} {
		expectPieces(t, tokens(x.token), s, "EUR", x.piece)
		expectPieces(t, tokens(x.token, x.token), s, "EUR", x.piece, x.piece)
		expectPieces(t, tokens(text("x"), x.token, percent), s, "EUR", api.Piece{Text: "x"}, x.piece, api.Piece{Text: s.Percent, Field: api.PercentSign})
	}
}

// A text is as it is, also where it is what a symbol is, or no UTF-8.
func TestPiecesOfTexts(t *testing.T) {
	for _, s := range []string{"-", "+", "%", "\u2030", "\u00a4", "'", "''", "0", " ", "\x00", "\xff", "a-b", "\u00a0", repeat("x", 65)} {
		expectPieces(t, tokens(text(s)), symbols(), "$", api.Piece{Text: s})
		expectPieces(t, tokens(text(s), text(s), minus), symbols(), "$", api.Piece{Text: s}, api.Piece{Text: s}, api.Piece{Text: "\u2212", Field: api.Sign})
	}
}

func TestPiecesOfNoTokens(t *testing.T) {
	expectPieces(t, nil, symbols(), "$")
	expectPieces(t, tokens(), symbols(), "$")
	expectPieces(t, nil, api.Symbols{}, "")
}

// What has an empty text has no piece; what stands beside it has.
func TestPiecesThatWouldBeEmpty(t *testing.T) {
	all := tokens(text("a"), minus, plus, percent, permille, coin(1))
	expectPieces(t, all, api.Symbols{}, "", api.Piece{Text: "a"})
	expectPieces(t, tokens(text("")), symbols(), "$")
	expectPieces(t, tokens(text(""), minus, text(""), text("b"), text("")), symbols(), "$", api.Piece{Text: "\u2212", Field: api.Sign}, api.Piece{Text: "b"})
	expectPieces(t, all, api.Symbols{Minus: "m"}, "", api.Piece{Text: "a"}, api.Piece{Text: "m", Field: api.Sign})
	expectPieces(t, all, api.Symbols{Plus: "p"}, "", api.Piece{Text: "a"}, api.Piece{Text: "p", Field: api.Sign})
	expectPieces(t, all, api.Symbols{Percent: "c"}, "", api.Piece{Text: "a"}, api.Piece{Text: "c", Field: api.PercentSign})
	expectPieces(t, all, api.Symbols{Permille: "k"}, "", api.Piece{Text: "a"}, api.Piece{Text: "k", Field: api.PermilleSign})
	expectPieces(t, all, api.Symbols{}, "$", api.Piece{Text: "a"}, api.Piece{Text: "$", Field: api.Currency})
}

// A Kind that is none has no piece, whatever text the token has.
func TestPiecesOfKindsThatAreNone(t *testing.T) {
	for _, kind := range edges() {
		if kind >= api.TokText && kind <= api.TokCoin {
			continue
		}
		expectPieces(t, tokens(api.Token{Kind: kind, Text: "a", Many: 1}), symbols(), "$")
		expectPieces(t, tokens(api.Token{Kind: kind}, minus, api.Token{Kind: kind, Text: "-"}, coin(1)), symbols(), "$", api.Piece{Text: "\u2212", Field: api.Sign}, api.Piece{Text: "$", Field: api.Currency})
	}
}

// No token is checked: each is written by its Kind alone, but a text by its Text.
func TestPiecesOfTokensThatMayNotBe(t *testing.T) {
	for _, many := range edges() {
		expectPieces(t, tokens(coin(many), coin(many)), symbols(), "$", api.Piece{Text: "$", Field: api.Currency}, api.Piece{Text: "$", Field: api.Currency})
		expectPieces(t, tokens(api.Token{Kind: api.TokMinus, Many: many, Text: "loud"}), symbols(), "$", api.Piece{Text: "\u2212", Field: api.Sign})
		expectPieces(t, tokens(api.Token{Many: many, Text: "a"}), symbols(), "$", api.Piece{Text: "a"})
		expectPieces(t, tokens(api.Token{Kind: api.TokCoin, Many: many, Text: "loud"}), symbols(), "")
	}
}

// All rows of up to four tokens, by symbols that are there and that are not.
func TestPiecesOfAllSmallRows(t *testing.T) {
	all := tokens(text("a"), text(""), minus, plus, percent, permille, coin(2), api.Token{Kind: 6, Text: "x"})
	few := symbols()
	few.Minus, few.Permille = "", ""
	var longer func(l []api.Token, left int)
	longer = func(l []api.Token, left int) {
		expectPiecesWords(t, l, symbols(), "$")
		expectPiecesWords(t, l, few, "")
		for _, x := range all {
			if left > 0 {
				longer(append(l, x), left-1)
			}
		}
	}
	longer(nil, 4)
}

func TestPiecesSome(t *testing.T) {
	r := source()
	for range 30000 {
		s, coin := someSymbols(r)
		expectPiecesWords(t, someTokens(r, 8), s, coin)
	}
}
