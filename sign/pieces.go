package sign

import "quipu/api"

// Pieces are tokens as they are written; coin is what stands for a currency.
func Pieces(l []api.Token, s api.Symbols, coin string) []api.Piece {
	var pieces []api.Piece
	for _, t := range l {
		if p := piece(t, s, coin); p.Text != "" {
			pieces = append(pieces, p)
		}
	}
	return pieces
}

// piece: a token's; without a text, if it is of no Kind.
func piece(t api.Token, s api.Symbols, coin string) api.Piece {
	switch t.Kind {
	case api.TokText:
		return api.Piece{Text: t.Text, Field: api.Literal}
	case api.TokMinus:
		return api.Piece{Text: s.Minus, Field: api.Sign}
	case api.TokPlus:
		return api.Piece{Text: s.Plus, Field: api.Sign}
	case api.TokPercent:
		return api.Piece{Text: s.Percent, Field: api.PercentSign}
	case api.TokPermille:
		return api.Piece{Text: s.Permille, Field: api.PermilleSign}
	case api.TokCoin:
		return api.Piece{Text: coin, Field: api.Currency}
	}
	return api.Piece{}
}
