package affix

import (
	"strings"

	"quipu/api"
	"quipu/cursor"
)

// The states in which the quotes of a text are gone through. What an apostrophe is, the rune behind it tells.
const (
	outside = iota // no quote
	opened         // behind an apostrophe outside: half of a text's one, or the beginning of a quote
	inside         // within a quote
	closed         // behind an apostrophe inside: half of a text's one, or the end of the quote
)

// move: to which state an apostrophe leads, and to which every other rune.
type move struct {
	apostrophe, other int
}

var moves = [...]move{
	outside: {opened, outside},
	opened:  {outside, inside},
	inside:  {closed, inside},
	closed:  {inside, outside},
}

func after(state int, r string) int {
	if r == apostrophe {
		return moves[state].apostrophe
	}
	return moves[state].other
}

// Parse reads a text as tokens; Print is their text.
func Parse(s string) ([]api.Token, api.Errno) {
	var all gathering
	state, at, size := outside, 0, 0
runes:
	for ; at < len(s); at += size {
		size = cursor.Rune(s, at)
		r := s[at : at+size]
		state = after(state, r)
		switch {
		case size == 0:
			break runes
		case state == opened || state == closed:
			continue runes
		case state == inside:
			all.add(api.Token{Kind: api.TokText, Text: r})
		case isLetter(r) || !all.add(plain(r)):
			break runes
		}
	}
	switch {
	case at < len(s): // the loop was left at what is wrong
		return nil, api.ErrAffixToken
	case state == opened || state == inside:
		return nil, api.ErrAffixQuote
	}
	if err := Check(all.tokens); err != api.OK {
		return nil, err
	}
	return all.tokens, api.OK
}

// plain: the token of a rune outside of quotes, where an apostrophe is a whole one already.
func plain(r string) api.Token {
	switch kind := kindOf(r); kind {
	case api.TokText:
		return api.Token{Kind: kind, Text: r}
	case api.TokCoin:
		return api.Token{Kind: kind, Many: 1}
	default:
		return api.Token{Kind: kind}
	}
}

// gathering is the tokens of a text up to some place. Once they are too long for Check no more of them are kept, whatever the text's length; but the text is gone through to its end, because what is wrong in it is told first.
type gathering struct {
	tokens []api.Token
	size   int // of their Texts
	coins  int // signs of currencies side by side, up to that place
}

// add answers false, if the token is one sign of a currency too many.
func (g *gathering) add(t api.Token) bool {
	if len(g.tokens) <= mostTokens && g.size <= api.MaxText {
		g.keep(t)
	}
	if t.Kind == api.TokCoin {
		g.coins++
	} else {
		g.coins = 0
	}
	return g.coins <= mostCoins
}

// keep copies the Text, which shall not keep all of the text that is read in memory.
func (g *gathering) keep(t api.Token) {
	g.size += len(t.Text)
	last := len(g.tokens) - 1
	if last >= 0 && join(g.tokens[last], t) {
		g.tokens[last].Text += t.Text
		g.tokens[last].Many += t.Many
		return
	}
	t.Text = strings.Clone(t.Text)
	g.tokens = append(g.tokens, t)
}
